
/-
  What the specification's EventOf returns. Conditions: texts are at most 1048576 bytes long.
-/
import Derived.Test.YthlapikcjiajgaaDoorBas
import Derived.Test.YthlapikcjiajgaaDoorEwp
import Derived.Test.YthlapikcjiajgaaDoorEvy
import Derived.Laws.CopyOwn
namespace Go.Proofs.YthlapikcjiajgaaDoor
open Go.ChangeShapes Go.WideShapes Go.ChangeAt Go.RowKit Go.Deep
set_option linter.unusedVariables false

theorem row_c {w : World} {B : Nat} {cs : Array Value} {ty : TypeId} (h : w.heap[B]? = some (.cells cs ty (0, 0))) (j : Nat) (v : Value) (hj : cs[j]? = some v) : w.cell? ⟨B, j, none⟩ = some v := by simp [World.cell?, h, hj]
/-- What a list of four numbers says, and where it lies. -/
def NV (X : World) (V : Value) (Q q : Bool) (n0 n1 n4 n5 : Int) : Prop := Q = q ∧ (Q = true → ∃ g cap, V = .slice (some ⟨g, 0, none⟩) 4 cap ∧ X.cell? ⟨g, 0, none⟩ = some (.int .i64 n0) ∧ X.cell? ⟨g, 1, none⟩ = some (.int .i64 n1) ∧ X.cell? ⟨g, 2, none⟩ = some (.int .i64 n4) ∧ X.cell? ⟨g, 3, none⟩ = some (.int .i64 n5))
theorem NV.below {X X' : World} {V : Value} {Q q : Bool} {n0 n1 n4 n5 : Int} (h : NV X V Q q n0 n1 n4 n5) (hb : Below X.heap.size X X') : NV X' V Q q n0 n1 n4 n5 :=
  ⟨h.1, fun hq => (h.2 hq).imp fun g k => k.imp fun cap e => ⟨e.1, (hb.cell (World.block_lt_of_cell? _ _ e.2.1)).trans e.2.1, (hb.cell (World.block_lt_of_cell? _ _ e.2.2.1)).trans e.2.2.1, (hb.cell (World.block_lt_of_cell? _ _ e.2.2.2.1)).trans e.2.2.2.1, (hb.cell (World.block_lt_of_cell? _ _ e.2.2.2.2)).trans e.2.2.2.2⟩⟩
theorem dash_no {x : ByteArray} (h : ¬ x = Ex.dash) : (x.toList == [45]) = false := by
  have := Tx.list_ne x Ex.dash h
  rw [ByteArray.toList_eq Ex.dash] at this
  exact this
theorem dash_yes : (Ex.dash.toList == [45]) = true := by rw [ByteArray.toList_eq]; rfl
set_option maxRecDepth 40000 in
set_option maxHeartbeats 8000000 in
theorem spec_evof_long (s : ByteArray) (hl : 100 < s.size) (hs : s.size ≤ 1048576) (w : World) :
    Calls Tryd.prog 9 #[.string s] w fun e w' => e = .returned (.tuple #[.agg #[.int .i64 0, .int .i64 0, .int .u32 0, .int .i64 0, .int .i64 0, .int .i64 0, .int .u32 0], .bool false]) ∧ Below w.heap.size w w' := by
  have HR : Hid ((w.alloc (.cells #[.int .i64 0, .int .i64 0, .int .u32 0, .int .i64 0, .int .i64 0, .int .i64 0, .int .u32 0] 26)).heap[w.heap.size]? = some (.cells #[.int .i64 0, .int .i64 0, .int .u32 0, .int .i64 0, .int .i64 0, .int .i64 0, .int .u32 0] 26 (0, 0))) := new_row w _ _ _ rfl
  have HB : Hid (Below w.heap.size w (w.alloc (.cells #[.int .i64 0, .int .i64 0, .int .u32 0, .int .i64 0, .int .i64 0, .int .i64 0, .int .u32 0] 26))) := (Below.refl _ _).alloc (Nat.le_refl _) _
  have hl1 : decide ((100 : Int) < (s.size : Int)) = true := decide_eq_true (by omega)
  go_enter Tryd.func9, Tryd.ntmps9
  have HRF : Hid (((w.alloc (.cells #[.int .i64 0, .int .i64 0, .int .u32 0, .int .i64 0, .int .i64 0, .int .i64 0, .int .u32 0] 26)).setRow w.heap.size #[.int .i64 0, .int .i64 0, .int .u32 0, .int .i64 0, .int .i64 0, .int .i64 0, .int .u32 0]).heap[w.heap.size]? = some (.cells #[.int .i64 0, .int .i64 0, .int .u32 0, .int .i64 0, .int .i64 0, .int .i64 0, .int .u32 0] 26 (0, 0))) := setRow_heap _ _ _ _ _ _ HR.out
  have m0 := row_c HRF.out 0 _ rfl
  have m1 := row_c HRF.out 1 _ rfl
  have m2 := row_c HRF.out 2 _ rfl
  have m3 := row_c HRF.out 3 _ rfl
  have m4 := row_c HRF.out 4 _ rfl
  have m5 := row_c HRF.out 5 _ rfl
  have m6 := row_c HRF.out 6 _ rfl
  have HBF : Hid (Below w.heap.size w ((w.alloc (.cells #[.int .i64 0, .int .i64 0, .int .u32 0, .int .i64 0, .int .i64 0, .int .i64 0, .int .u32 0] 26)).setRow w.heap.size #[.int .i64 0, .int .i64 0, .int .u32 0, .int .i64 0, .int .i64 0, .int .i64 0, .int .u32 0])) := below_setRow HB.out (Nat.le_refl _) _
  go_wp2_with (first | (refine wpList_store_row rfl 26 (.tmp 2) (.tmp 15) rfl w.heap.size #[.int .i64 0, .int .i64 0, .int .u32 0, .int .i64 0, .int .i64 0, .int .i64 0, .int .u32 0] rfl rfl 26 #[.int .i64 0, .int .i64 0, .int .u32 0, .int .i64 0, .int .i64 0, .int .i64 0, .int .u32 0] HR.out (by kernel_rfl) rfl (by simp [Value.oneCell']) ?_) | fail)
  exact bodyPost_ret (v := .tuple #[.agg #[.int .i64 0, .int .i64 0, .int .u32 0, .int .i64 0, .int .i64 0, .int .i64 0, .int .u32 0], .bool false]) (by simp [results, Tryd.results9, go_sem, m0, m1, m2, m3, m4, m5, m6]) rfl ⟨rfl, HBF.out⟩
set_option maxRecDepth 40000 in
set_option maxHeartbeats 8000000 in
theorem spec_evof_ne (s : ByteArray) (hl : s.size ≤ 100) (m : Nat) (hm : ¬ m = 7) (hm2 : m ≤ 1048577)
    (HSP : Hid (∀ X, Calls Tryd.prog 22 #[.string s] X fun e w' => ∃ a cap, e = .returned (.slice a m cap) ∧ Below X.heap.size X w')) (w : World) :
    Calls Tryd.prog 9 #[.string s] w fun e w' => e = .returned (.tuple #[.agg #[.int .i64 0, .int .i64 0, .int .u32 0, .int .i64 0, .int .i64 0, .int .i64 0, .int .u32 0], .bool false]) ∧ Below w.heap.size w w' := by
  have HR : Hid ((w.alloc (.cells #[.int .i64 0, .int .i64 0, .int .u32 0, .int .i64 0, .int .i64 0, .int .i64 0, .int .u32 0] 26)).heap[w.heap.size]? = some (.cells #[.int .i64 0, .int .i64 0, .int .u32 0, .int .i64 0, .int .i64 0, .int .i64 0, .int .u32 0] 26 (0, 0))) := new_row w _ _ _ rfl
  have HB : Hid (Below w.heap.size w (w.alloc (.cells #[.int .i64 0, .int .i64 0, .int .u32 0, .int .i64 0, .int .i64 0, .int .i64 0, .int .u32 0] 26))) := (Below.refl _ _).alloc (Nat.le_refl _) _
  have hl1 : decide ((100 : Int) < (s.size : Int)) = false := decide_eq_false (by omega)
  have hm1 : ((m : Int) != 7) = true := by rw [bne_iff_ne]; omega
  go_enter Tryd.func9, Tryd.ntmps9
  go_wp2_with fail
  refine Calls.mono (HSP.out _) ?_
  rintro e W1 ⟨a, cap, rfl, hb1⟩
  have HB1 : Hid (Below w.heap.size w W1) := HB.out.trans (hb1.mono HB.out.size)
  have HR1 : Hid (W1.heap[w.heap.size]? = some (.cells #[.int .i64 0, .int .i64 0, .int .u32 0, .int .i64 0, .int .i64 0, .int .i64 0, .int .u32 0] 26 (0, 0))) := row_below HR.out hb1
  clear hb1 HB HR
  have HRF : Hid ((W1.setRow w.heap.size #[.int .i64 0, .int .i64 0, .int .u32 0, .int .i64 0, .int .i64 0, .int .i64 0, .int .u32 0]).heap[w.heap.size]? = some (.cells #[.int .i64 0, .int .i64 0, .int .u32 0, .int .i64 0, .int .i64 0, .int .i64 0, .int .u32 0] 26 (0, 0))) := setRow_heap _ _ _ _ _ _ HR1.out
  have m0 := row_c HRF.out 0 _ rfl
  have m1 := row_c HRF.out 1 _ rfl
  have m2 := row_c HRF.out 2 _ rfl
  have m3 := row_c HRF.out 3 _ rfl
  have m4 := row_c HRF.out 4 _ rfl
  have m5 := row_c HRF.out 5 _ rfl
  have m6 := row_c HRF.out 6 _ rfl
  have HBF : Hid (Below w.heap.size w (W1.setRow w.heap.size #[.int .i64 0, .int .i64 0, .int .u32 0, .int .i64 0, .int .i64 0, .int .i64 0, .int .u32 0])) := below_setRow HB1.out (Nat.le_refl _) _
  go_wp2_with (first | (refine wpList_store_row rfl 26 (.tmp 2) (.tmp 21) rfl w.heap.size #[.int .i64 0, .int .i64 0, .int .u32 0, .int .i64 0, .int .i64 0, .int .i64 0, .int .u32 0] rfl rfl 26 #[.int .i64 0, .int .i64 0, .int .u32 0, .int .i64 0, .int .i64 0, .int .i64 0, .int .u32 0] HR1.out (by kernel_rfl) rfl (by simp [Value.oneCell']) ?_) | fail)
  exact bodyPost_ret (v := .tuple #[.agg #[.int .i64 0, .int .i64 0, .int .u32 0, .int .i64 0, .int .i64 0, .int .i64 0, .int .u32 0], .bool false]) (by simp [results, Tryd.results9, go_sem, m0, m1, m2, m3, m4, m5, m6]) rfl ⟨rfl, HBF.out⟩
structure EsRn (W0 : World) (g : Nat) (off : Nat) (cap : Nat) (y0 : ByteArray) (y1 : ByteArray) (y4 : ByteArray) (y5 : ByteArray) (n0 : Int) (n1 : Int) (n4 : Int) (n5 : Int) (V : Value) (Q : Bool) (w' : World) (b0 b1 b2 b3 b4 b5 b6 b7 b8 b9 b10 b11 b12 b13 b14 b15 b16 b17 b18 : Bool) (x23 x24 x25 x26 x27 x28 x29 x30 x31 x32 x33 x34 x35 x36 x22 x37 x38 x5 x6 : Value) : Prop where
  gb : Below W0.heap.size W0 w'
  gp : b13 = true → NV w' V Q false n0 n1 n4 n5
  c14 : b14 = true → b13 = true
  c15 : b15 = true → b13 = true
  c16 : b16 = true → b13 = true
  c17 : b17 = true → b13 = true
  c18 : b18 = true → b13 = true
  f0 : b0 = true → x23 = .slice (some ⟨g, off, none⟩) 7 cap
  f1 : b1 = true → x24 = .pointer (some ⟨g, off, none⟩)
  f2 : b2 = true → x25 = .string y0
  f3 : b3 = true → x26 = .slice (some ⟨g, off, none⟩) 7 cap
  f4 : b4 = true → x27 = .pointer (some ⟨g, off + 1, none⟩)
  f5 : b5 = true → x28 = .string y1
  f6 : b6 = true → x29 = .slice (some ⟨g, off, none⟩) 7 cap
  f7 : b7 = true → x30 = .pointer (some ⟨g, off + 4, none⟩)
  f8 : b8 = true → x31 = .string y4
  f9 : b9 = true → x32 = .slice (some ⟨g, off, none⟩) 7 cap
  f10 : b10 = true → x33 = .pointer (some ⟨g, off + 5, none⟩)
  f11 : b11 = true → x34 = .string y5
  f12 : b12 = true → ∃ N, x35 = .slice (some ⟨N, 0, none⟩) 4 4 ∧ W0.heap.size ≤ N ∧ w'.heap[N]? = some (.cells #[.string y0, .string y1, .string y4, .string y5] 9 (0, 0))
  f13 : b13 = true → x36 = .tuple #[V, .bool Q]
  f14 : b14 = true → x22 = .tuple #[V, .bool Q]
  f15 : b15 = true → x37 = V
  f16 : b16 = true → x38 = .bool Q
  f17 : b17 = true → x5 = V
  f18 : b18 = true → x6 = .bool Q
theorem EsRn.below {W0 : World} {g : Nat} {off : Nat} {cap : Nat} {y0 : ByteArray} {y1 : ByteArray} {y4 : ByteArray} {y5 : ByteArray} {n0 : Int} {n1 : Int} {n4 : Int} {n5 : Int} {V : Value} {Q : Bool} {w' w9 : World} {b0 b1 b2 b3 b4 b5 b6 b7 b8 b9 b10 b11 b12 b13 b14 b15 b16 b17 b18 : Bool} {x23 x24 x25 x26 x27 x28 x29 x30 x31 x32 x33 x34 x35 x36 x22 x37 x38 x5 x6 : Value} (h : EsRn W0 g off cap y0 y1 y4 y5 n0 n1 n4 n5 V Q w' b0 b1 b2 b3 b4 b5 b6 b7 b8 b9 b10 b11 b12 b13 b14 b15 b16 b17 b18 x23 x24 x25 x26 x27 x28 x29 x30 x31 x32 x33 x34 x35 x36 x22 x37 x38 x5 x6) (hb : Below w'.heap.size w' w9) : EsRn W0 g off cap y0 y1 y4 y5 n0 n1 n4 n5 V Q w9 b0 b1 b2 b3 b4 b5 b6 b7 b8 b9 b10 b11 b12 b13 b14 b15 b16 b17 b18 x23 x24 x25 x26 x27 x28 x29 x30 x31 x32 x33 x34 x35 x36 x22 x37 x38 x5 x6 :=
  ⟨h.gb.trans (hb.mono h.gb.size), fun g => (h.gp g).below hb, h.c14, h.c15, h.c16, h.c17, h.c18, h.f0, h.f1, h.f2, h.f3, h.f4, h.f5, h.f6, h.f7, h.f8, h.f9, h.f10, h.f11, fun g => (h.f12 g).imp fun N k => ⟨k.1, k.2.1, row_below k.2.2 hb⟩, h.f13, h.f14, h.f15, h.f16, h.f17, h.f18⟩
set_option maxRecDepth 40000 in
set_option maxHeartbeats 8000000 in
theorem spec_evof_n (s : ByteArray) (hl : s.size ≤ 100) (y0 y1 y2 y3 y4 y5 y6 : ByteArray) (n0 n1 h2 z n4 n5 h6 : Int) (q b2 b6 : Bool)
    (hq : q = false)
    (HSP : Hid (∀ X, Calls Tryd.prog 22 #[.string s] X fun e w' => ∃ g off cap, e = .returned (.slice (some ⟨g, off, none⟩) 7 cap) ∧ Below X.heap.size X w' ∧ w'.cell? ⟨g, off, none⟩ = some (.string y0) ∧ w'.cell? ⟨g, off + 1, none⟩ = some (.string y1) ∧ w'.cell? ⟨g, off + 2, none⟩ = some (.string y2) ∧ w'.cell? ⟨g, off + 3, none⟩ = some (.string y3) ∧ w'.cell? ⟨g, off + 4, none⟩ = some (.string y4) ∧ w'.cell? ⟨g, off + 5, none⟩ = some (.string y5) ∧ w'.cell? ⟨g, off + 6, none⟩ = some (.string y6)))
    (KN : Hid (∀ (X : World) (N : Nat), X.heap[N]? = some (.cells #[.string y0, .string y1, .string y4, .string y5] 9 (0, 0)) → Calls Tryd.prog 23 #[.slice (some ⟨N, 0, none⟩) 4 4] X fun e w' => ∃ V Q, e = .returned (.tuple #[V, .bool Q]) ∧ Below X.heap.size X w' ∧ NV w' V Q q n0 n1 n4 n5))
    (K2 : Hid (∀ X, Calls Tryd.prog 24 #[.string y2] X fun e w' => e = .returned (.tuple #[.int .u32 h2, .bool b2]) ∧ w' = X))
    (K6 : Hid (∀ X, Calls Tryd.prog 24 #[.string y6] X fun e w' => e = .returned (.tuple #[.int .u32 h6, .bool b6]) ∧ w' = X))
    (KO : Hid (∀ X, Calls Tryd.prog 25 #[.string y3] X fun e w' => e = .returned (.int .i64 z) ∧ Below X.heap.size X w')) (w : World) :
    Calls Tryd.prog 9 #[.string s] w fun e w' => e = .returned (.tuple #[.agg #[.int .i64 0, .int .i64 0, .int .u32 0, .int .i64 0, .int .i64 0, .int .i64 0, .int .u32 0], .bool false]) ∧ Below w.heap.size w w' := by
  have HR : Hid ((w.alloc (.cells #[.int .i64 0, .int .i64 0, .int .u32 0, .int .i64 0, .int .i64 0, .int .i64 0, .int .u32 0] 26)).heap[w.heap.size]? = some (.cells #[.int .i64 0, .int .i64 0, .int .u32 0, .int .i64 0, .int .i64 0, .int .i64 0, .int .u32 0] 26 (0, 0))) := new_row w _ _ _ rfl
  have HB : Hid (Below w.heap.size w (w.alloc (.cells #[.int .i64 0, .int .i64 0, .int .u32 0, .int .i64 0, .int .i64 0, .int .i64 0, .int .u32 0] 26))) := (Below.refl _ _).alloc (Nat.le_refl _) _
  subst hq
  have hl1 : decide ((100 : Int) < (s.size : Int)) = false := decide_eq_false (by omega)
  have HL : Hid (s.size ≤ 100) := hl
  clear hl
  go_enter Tryd.func9, Tryd.ntmps9
  go_wp2_with fail
  refine Calls.mono (HSP.out _) ?_
  rintro e W1 ⟨g, off, cap, rfl, hb1, e0, e1, e2, e3, e4, e5, e6⟩
  have HB1 : Hid (Below w.heap.size w W1) := HB.out.trans (hb1.mono HB.out.size)
  have HR1 : Hid (W1.heap[w.heap.size]? = some (.cells #[.int .i64 0, .int .i64 0, .int .u32 0, .int .i64 0, .int .i64 0, .int .i64 0, .int .u32 0] 26 (0, 0))) := row_below HR.out hb1
  clear hb1 HB HR HSP hl1
  go_wp2
  refine wp_region_inv (by kernel_rfl) (by kernel_rfl) (fun A ℓ a' w' => ∃ (V : Value) (Q : Bool) (x23 x24 x25 x26 x27 x28 x29 x30 x31 x32 x33 x34 x35 x36 x22 x37 x38 x5 x6 : Value), a' = (((((((((((((((((((A.put (some 23) x23).put (some 24) x24).put (some 25) x25).put (some 26) x26).put (some 27) x27).put (some 28) x28).put (some 29) x29).put (some 30) x30).put (some 31) x31).put (some 32) x32).put (some 33) x33).put (some 34) x34).put (some 35) x35).put (some 36) x36).put (some 22) x22).put (some 37) x37).put (some 38) x38).put (some 5) x5).put (some 6) x6) ∧ EsRn (W1) (g) (off) (cap) (y0) (y1) (y4) (y5) (n0) (n1) (n4) (n5) V Q w' (ℓ 0) (ℓ 1) (ℓ 2) (ℓ 3) (ℓ 4) (ℓ 5) (ℓ 6) (ℓ 7) (ℓ 8) (ℓ 9) (ℓ 10) (ℓ 11) (ℓ 12) (ℓ 13) (ℓ 14) (ℓ 15) (ℓ 16) (ℓ 17) (ℓ 18) x23 x24 x25 x26 x27 x28 x29 x30 x31 x32 x33 x34 x35 x36 x22 x37 x38 x5 x6) ?_ ?_ ?_ ?_
  · exact ⟨undef, false, undef, undef, undef, undef, undef, undef, undef, undef, undef, undef, undef, undef, undef, undef, undef, undef, undef, undef, undef, (by simp only [Act.put, List.setIfInBounds_toArray, List.set_cons_zero, List.set_cons_succ]), ⟨(Below.refl _ _).drew, (fun g => by cases g), (fun g => by cases g), (fun g => by cases g), (fun g => by cases g), (fun g => by cases g), (fun g => by cases g), (fun g => by cases g), (fun g => by cases g), (fun g => by cases g), (fun g => by cases g), (fun g => by cases g), (fun g => by cases g), (fun g => by cases g), (fun g => by cases g), (fun g => by cases g), (fun g => by cases g), (fun g => by cases g), (fun g => by cases g), (fun g => by cases g), (fun g => by cases g), (fun g => by cases g), (fun g => by cases g), (fun g => by cases g), (fun g => by cases g), (fun g => by cases g)⟩⟩
  · intro ℓ a' w' hI hall
    obtain ⟨V, Q, x23, x24, x25, x26, x27, x28, x29, x30, x31, x32, x33, x34, x35, x36, x22, x37, x38, x5, x6, rfl, hr⟩ := hI
    have hall' : ∀ i, i < 19 → ℓ i = true := hall
    obtain rfl := hr.f0 (hall' 0 (by decide))
    obtain rfl := hr.f1 (hall' 1 (by decide))
    obtain rfl := hr.f2 (hall' 2 (by decide))
    obtain rfl := hr.f3 (hall' 3 (by decide))
    obtain rfl := hr.f4 (hall' 4 (by decide))
    obtain rfl := hr.f5 (hall' 5 (by decide))
    obtain rfl := hr.f6 (hall' 6 (by decide))
    obtain rfl := hr.f7 (hall' 7 (by decide))
    obtain rfl := hr.f8 (hall' 8 (by decide))
    obtain rfl := hr.f9 (hall' 9 (by decide))
    obtain rfl := hr.f10 (hall' 10 (by decide))
    obtain rfl := hr.f11 (hall' 11 (by decide))
    obtain ⟨N12, rfl, hN12, hrow12⟩ := hr.f12 (hall' 12 (by decide))
    obtain rfl := hr.f13 (hall' 13 (by decide))
    obtain rfl := hr.f14 (hall' 14 (by decide))
    obtain rfl := (hr.f15 (hall' 15 (by decide))).symm
    obtain rfl := hr.f16 (hall' 16 (by decide))
    obtain rfl := (hr.f17 (hall' 17 (by decide))).symm
    obtain rfl := hr.f18 (hall' 18 (by decide))
    have hgp := hr.gp (hall' 13 (by decide))
    have hgb := hr.gb
    clear hall hall' hr
    simp only [Act.put, List.setIfInBounds_toArray, List.set_cons_zero, List.set_cons_succ]
    have hgq := hgp.1
    subst hgq
    have HP : Hid (NV w' V false false n0 n1 n4 n5) := hgp
    have HB2 : Hid (Below w.heap.size w w') := HB1.out.trans (hgb.mono HB1.out.size)
    have HR2 : Hid (w'.heap[w.heap.size]? = some (.cells #[.int .i64 0, .int .i64 0, .int .u32 0, .int .i64 0, .int .i64 0, .int .i64 0, .int .u32 0] 26 (0, 0))) := row_below HR1.out hgb
    replace e2 := (hgb.cell (World.block_lt_of_cell? _ _ e2)).trans e2
    replace e3 := (hgb.cell (World.block_lt_of_cell? _ _ e3)).trans e3
    replace e6 := (hgb.cell (World.block_lt_of_cell? _ _ e6)).trans e6
    clear hgb hgp e0 e1 e4 e5 HB1 HR1 KN hrow12 hN12
    go_wp2_with fail
    refine Calls.mono (K2.out _) ?_
    rintro e W2 ⟨rfl, rfl⟩
    go_wp2_with fail
    refine Calls.mono (K6.out _) ?_
    rintro e W2 ⟨rfl, rfl⟩
    go_wp2_with fail
    refine Calls.mono (KO.out _) ?_
    rintro e W3 ⟨rfl, hb3⟩
    have HB3 : Hid (Below w.heap.size w W3) := HB2.out.trans (hb3.mono HB2.out.size)
    have HR3 : Hid (W3.heap[w.heap.size]? = some (.cells #[.int .i64 0, .int .i64 0, .int .u32 0, .int .i64 0, .int .i64 0, .int .i64 0, .int .u32 0] 26 (0, 0))) := row_below HR2.out hb3
    replace e3 := (hb3.cell (World.block_lt_of_cell? _ _ e3)).trans e3
    have HP3 : Hid (NV W3 V false false n0 n1 n4 n5) := HP.out.below hb3
    clear hb3 e2 e6 HB2 HR2 HP K2 K6 KO
    have HRF : Hid ((W3.setRow w.heap.size #[.int .i64 0, .int .i64 0, .int .u32 0, .int .i64 0, .int .i64 0, .int .i64 0, .int .u32 0]).heap[w.heap.size]? = some (.cells #[.int .i64 0, .int .i64 0, .int .u32 0, .int .i64 0, .int .i64 0, .int .i64 0, .int .u32 0] 26 (0, 0))) := setRow_heap _ _ _ _ _ _ HR3.out
    have m0 := row_c HRF.out 0 _ rfl
    have m1 := row_c HRF.out 1 _ rfl
    have m2 := row_c HRF.out 2 _ rfl
    have m3 := row_c HRF.out 3 _ rfl
    have m4 := row_c HRF.out 4 _ rfl
    have m5 := row_c HRF.out 5 _ rfl
    have m6 := row_c HRF.out 6 _ rfl
    have HBF : Hid (Below w.heap.size w (W3.setRow w.heap.size #[.int .i64 0, .int .i64 0, .int .u32 0, .int .i64 0, .int .i64 0, .int .i64 0, .int .u32 0])) := below_setRow HB3.out (Nat.le_refl _) _
    go_wp2_with (first | (refine wpList_store_row rfl 26 (.tmp 2) (.tmp 77) rfl w.heap.size #[.int .i64 0, .int .i64 0, .int .u32 0, .int .i64 0, .int .i64 0, .int .i64 0, .int .u32 0] rfl rfl 26 #[.int .i64 0, .int .i64 0, .int .u32 0, .int .i64 0, .int .i64 0, .int .i64 0, .int .u32 0] HR3.out (by kernel_rfl) rfl (by simp [Value.oneCell']) ?_) | fail)
    exact bodyPost_ret (v := .tuple #[.agg #[.int .i64 0, .int .i64 0, .int .u32 0, .int .i64 0, .int .i64 0, .int .i64 0, .int .u32 0], .bool false]) (by simp [results, Tryd.results9, go_sem, m0, m1, m2, m3, m4, m5, m6]) rfl ⟨rfl, HBF.out⟩
  · intro ℓ a' w' i o hI ho hi hL hdep K hK
    obtain ⟨V, Q, x23, x24, x25, x26, x27, x28, x29, x30, x31, x32, x33, x34, x35, x36, x22, x37, x38, x5, x6, rfl, hr⟩ := hI
    have hi7 : i < 19 := hi
    have hcs : i = 0 ∨ i = 1 ∨ i = 2 ∨ i = 3 ∨ i = 4 ∨ i = 5 ∨ i = 6 ∨ i = 7 ∨ i = 8 ∨ i = 9 ∨ i = 10 ∨ i = 11 ∨ i = 12 ∨ i = 13 ∨ i = 14 ∨ i = 15 ∨ i = 16 ∨ i = 17 ∨ i = 18 := by omega
    clear hi hi7
    rcases hcs with rfl | rfl | rfl | rfl | rfl | rfl | rfl | rfl | rfl | rfl | rfl | rfl | rfl | rfl | rfl | rfl | rfl | rfl | rfl
    · revert hK
      obtain rfl := Option.some.inj ho
      clear hdep ho
      have hgb := hr.gb
      intro hK
      rw [if_pos (by rfl)]
      try simp only [Act.put, List.setIfInBounds_toArray, List.set_cons_zero, List.set_cons_succ]
      go_simp
      exact hK.out _ _ (fun j => if j = 0 then true else ℓ j) ⟨V, Q, (.slice (some ⟨g, off, none⟩) 7 cap), x24, x25, x26, x27, x28, x29, x30, x31, x32, x33, x34, x35, x36, x22, x37, x38, x5, x6, (by simp only [Act.put, List.setIfInBounds_toArray, List.set_cons_zero, List.set_cons_succ]), ⟨hr.gb, hr.gp, hr.c14, hr.c15, hr.c16, hr.c17, hr.c18, (fun _ => rfl), hr.f1, hr.f2, hr.f3, hr.f4, hr.f5, hr.f6, hr.f7, hr.f8, hr.f9, hr.f10, hr.f11, hr.f12, hr.f13, hr.f14, hr.f15, hr.f16, hr.f17, hr.f18⟩⟩ (if_pos rfl) (fun j hj => if_neg hj)
    · revert hK
      obtain rfl := Option.some.inj ho
      have g0 : ℓ 0 = true := hdep { on := 0, ground := Ground.data } (by simp) rfl
      clear hdep ho
      have hgb := hr.gb
      obtain rfl := hr.f0 g0
      intro hK
      rw [if_pos (by rfl)]
      try simp only [Act.put, List.setIfInBounds_toArray, List.set_cons_zero, List.set_cons_succ]
      go_simp
      exact hK.out _ _ (fun j => if j = 1 then true else ℓ j) ⟨V, Q, (.slice (some ⟨g, off, none⟩) 7 cap), (.pointer (some ⟨g, off, none⟩)), x25, x26, x27, x28, x29, x30, x31, x32, x33, x34, x35, x36, x22, x37, x38, x5, x6, (by simp only [Act.put, List.setIfInBounds_toArray, List.set_cons_zero, List.set_cons_succ]), ⟨hr.gb, hr.gp, hr.c14, hr.c15, hr.c16, hr.c17, hr.c18, hr.f0, (fun _ => rfl), hr.f2, hr.f3, hr.f4, hr.f5, hr.f6, hr.f7, hr.f8, hr.f9, hr.f10, hr.f11, hr.f12, hr.f13, hr.f14, hr.f15, hr.f16, hr.f17, hr.f18⟩⟩ (if_pos rfl) (fun j hj => if_neg hj)
    · revert hK
      obtain rfl := Option.some.inj ho
      have g1 : ℓ 1 = true := hdep { on := 1, ground := Ground.data } (by simp) rfl
      clear hdep ho
      have hgb := hr.gb
      obtain rfl := hr.f1 g1
      intro hK
      rw [if_pos (by rfl)]
      try simp only [Act.put, List.setIfInBounds_toArray, List.set_cons_zero, List.set_cons_succ]
      have cc := (hgb.cell (World.block_lt_of_cell? _ _ e0)).trans e0
      go_simp
      exact hK.out _ _ (fun j => if j = 2 then true else ℓ j) ⟨V, Q, x23, (.pointer (some ⟨g, off, none⟩)), (.string y0), x26, x27, x28, x29, x30, x31, x32, x33, x34, x35, x36, x22, x37, x38, x5, x6, (by simp only [Act.put, List.setIfInBounds_toArray, List.set_cons_zero, List.set_cons_succ]), ⟨hr.gb, hr.gp, hr.c14, hr.c15, hr.c16, hr.c17, hr.c18, hr.f0, hr.f1, (fun _ => rfl), hr.f3, hr.f4, hr.f5, hr.f6, hr.f7, hr.f8, hr.f9, hr.f10, hr.f11, hr.f12, hr.f13, hr.f14, hr.f15, hr.f16, hr.f17, hr.f18⟩⟩ (if_pos rfl) (fun j hj => if_neg hj)
    · revert hK
      obtain rfl := Option.some.inj ho
      clear hdep ho
      have hgb := hr.gb
      intro hK
      rw [if_pos (by rfl)]
      try simp only [Act.put, List.setIfInBounds_toArray, List.set_cons_zero, List.set_cons_succ]
      go_simp
      exact hK.out _ _ (fun j => if j = 3 then true else ℓ j) ⟨V, Q, x23, x24, x25, (.slice (some ⟨g, off, none⟩) 7 cap), x27, x28, x29, x30, x31, x32, x33, x34, x35, x36, x22, x37, x38, x5, x6, (by simp only [Act.put, List.setIfInBounds_toArray, List.set_cons_zero, List.set_cons_succ]), ⟨hr.gb, hr.gp, hr.c14, hr.c15, hr.c16, hr.c17, hr.c18, hr.f0, hr.f1, hr.f2, (fun _ => rfl), hr.f4, hr.f5, hr.f6, hr.f7, hr.f8, hr.f9, hr.f10, hr.f11, hr.f12, hr.f13, hr.f14, hr.f15, hr.f16, hr.f17, hr.f18⟩⟩ (if_pos rfl) (fun j hj => if_neg hj)
    · revert hK
      obtain rfl := Option.some.inj ho
      have g3 : ℓ 3 = true := hdep { on := 3, ground := Ground.data } (by simp) rfl
      clear hdep ho
      have hgb := hr.gb
      obtain rfl := hr.f3 g3
      intro hK
      rw [if_pos (by rfl)]
      try simp only [Act.put, List.setIfInBounds_toArray, List.set_cons_zero, List.set_cons_succ]
      go_simp
      exact hK.out _ _ (fun j => if j = 4 then true else ℓ j) ⟨V, Q, x23, x24, x25, (.slice (some ⟨g, off, none⟩) 7 cap), (.pointer (some ⟨g, off + 1, none⟩)), x28, x29, x30, x31, x32, x33, x34, x35, x36, x22, x37, x38, x5, x6, (by simp only [Act.put, List.setIfInBounds_toArray, List.set_cons_zero, List.set_cons_succ]), ⟨hr.gb, hr.gp, hr.c14, hr.c15, hr.c16, hr.c17, hr.c18, hr.f0, hr.f1, hr.f2, hr.f3, (fun _ => rfl), hr.f5, hr.f6, hr.f7, hr.f8, hr.f9, hr.f10, hr.f11, hr.f12, hr.f13, hr.f14, hr.f15, hr.f16, hr.f17, hr.f18⟩⟩ (if_pos rfl) (fun j hj => if_neg hj)
    · revert hK
      obtain rfl := Option.some.inj ho
      have g4 : ℓ 4 = true := hdep { on := 4, ground := Ground.data } (by simp) rfl
      clear hdep ho
      have hgb := hr.gb
      obtain rfl := hr.f4 g4
      intro hK
      rw [if_pos (by rfl)]
      try simp only [Act.put, List.setIfInBounds_toArray, List.set_cons_zero, List.set_cons_succ]
      have cc := (hgb.cell (World.block_lt_of_cell? _ _ e1)).trans e1
      go_simp
      exact hK.out _ _ (fun j => if j = 5 then true else ℓ j) ⟨V, Q, x23, x24, x25, x26, (.pointer (some ⟨g, off + 1, none⟩)), (.string y1), x29, x30, x31, x32, x33, x34, x35, x36, x22, x37, x38, x5, x6, (by simp only [Act.put, List.setIfInBounds_toArray, List.set_cons_zero, List.set_cons_succ]), ⟨hr.gb, hr.gp, hr.c14, hr.c15, hr.c16, hr.c17, hr.c18, hr.f0, hr.f1, hr.f2, hr.f3, hr.f4, (fun _ => rfl), hr.f6, hr.f7, hr.f8, hr.f9, hr.f10, hr.f11, hr.f12, hr.f13, hr.f14, hr.f15, hr.f16, hr.f17, hr.f18⟩⟩ (if_pos rfl) (fun j hj => if_neg hj)
    · revert hK
      obtain rfl := Option.some.inj ho
      clear hdep ho
      have hgb := hr.gb
      intro hK
      rw [if_pos (by rfl)]
      try simp only [Act.put, List.setIfInBounds_toArray, List.set_cons_zero, List.set_cons_succ]
      go_simp
      exact hK.out _ _ (fun j => if j = 6 then true else ℓ j) ⟨V, Q, x23, x24, x25, x26, x27, x28, (.slice (some ⟨g, off, none⟩) 7 cap), x30, x31, x32, x33, x34, x35, x36, x22, x37, x38, x5, x6, (by simp only [Act.put, List.setIfInBounds_toArray, List.set_cons_zero, List.set_cons_succ]), ⟨hr.gb, hr.gp, hr.c14, hr.c15, hr.c16, hr.c17, hr.c18, hr.f0, hr.f1, hr.f2, hr.f3, hr.f4, hr.f5, (fun _ => rfl), hr.f7, hr.f8, hr.f9, hr.f10, hr.f11, hr.f12, hr.f13, hr.f14, hr.f15, hr.f16, hr.f17, hr.f18⟩⟩ (if_pos rfl) (fun j hj => if_neg hj)
    · revert hK
      obtain rfl := Option.some.inj ho
      have g6 : ℓ 6 = true := hdep { on := 6, ground := Ground.data } (by simp) rfl
      clear hdep ho
      have hgb := hr.gb
      obtain rfl := hr.f6 g6
      intro hK
      rw [if_pos (by rfl)]
      try simp only [Act.put, List.setIfInBounds_toArray, List.set_cons_zero, List.set_cons_succ]
      go_simp
      exact hK.out _ _ (fun j => if j = 7 then true else ℓ j) ⟨V, Q, x23, x24, x25, x26, x27, x28, (.slice (some ⟨g, off, none⟩) 7 cap), (.pointer (some ⟨g, off + 4, none⟩)), x31, x32, x33, x34, x35, x36, x22, x37, x38, x5, x6, (by simp only [Act.put, List.setIfInBounds_toArray, List.set_cons_zero, List.set_cons_succ]), ⟨hr.gb, hr.gp, hr.c14, hr.c15, hr.c16, hr.c17, hr.c18, hr.f0, hr.f1, hr.f2, hr.f3, hr.f4, hr.f5, hr.f6, (fun _ => rfl), hr.f8, hr.f9, hr.f10, hr.f11, hr.f12, hr.f13, hr.f14, hr.f15, hr.f16, hr.f17, hr.f18⟩⟩ (if_pos rfl) (fun j hj => if_neg hj)
    · revert hK
      obtain rfl := Option.some.inj ho
      have g7 : ℓ 7 = true := hdep { on := 7, ground := Ground.data } (by simp) rfl
      clear hdep ho
      have hgb := hr.gb
      obtain rfl := hr.f7 g7
      intro hK
      rw [if_pos (by rfl)]
      try simp only [Act.put, List.setIfInBounds_toArray, List.set_cons_zero, List.set_cons_succ]
      have cc := (hgb.cell (World.block_lt_of_cell? _ _ e4)).trans e4
      go_simp
      exact hK.out _ _ (fun j => if j = 8 then true else ℓ j) ⟨V, Q, x23, x24, x25, x26, x27, x28, x29, (.pointer (some ⟨g, off + 4, none⟩)), (.string y4), x32, x33, x34, x35, x36, x22, x37, x38, x5, x6, (by simp only [Act.put, List.setIfInBounds_toArray, List.set_cons_zero, List.set_cons_succ]), ⟨hr.gb, hr.gp, hr.c14, hr.c15, hr.c16, hr.c17, hr.c18, hr.f0, hr.f1, hr.f2, hr.f3, hr.f4, hr.f5, hr.f6, hr.f7, (fun _ => rfl), hr.f9, hr.f10, hr.f11, hr.f12, hr.f13, hr.f14, hr.f15, hr.f16, hr.f17, hr.f18⟩⟩ (if_pos rfl) (fun j hj => if_neg hj)
    · revert hK
      obtain rfl := Option.some.inj ho
      clear hdep ho
      have hgb := hr.gb
      intro hK
      rw [if_pos (by rfl)]
      try simp only [Act.put, List.setIfInBounds_toArray, List.set_cons_zero, List.set_cons_succ]
      go_simp
      exact hK.out _ _ (fun j => if j = 9 then true else ℓ j) ⟨V, Q, x23, x24, x25, x26, x27, x28, x29, x30, x31, (.slice (some ⟨g, off, none⟩) 7 cap), x33, x34, x35, x36, x22, x37, x38, x5, x6, (by simp only [Act.put, List.setIfInBounds_toArray, List.set_cons_zero, List.set_cons_succ]), ⟨hr.gb, hr.gp, hr.c14, hr.c15, hr.c16, hr.c17, hr.c18, hr.f0, hr.f1, hr.f2, hr.f3, hr.f4, hr.f5, hr.f6, hr.f7, hr.f8, (fun _ => rfl), hr.f10, hr.f11, hr.f12, hr.f13, hr.f14, hr.f15, hr.f16, hr.f17, hr.f18⟩⟩ (if_pos rfl) (fun j hj => if_neg hj)
    · revert hK
      obtain rfl := Option.some.inj ho
      have g9 : ℓ 9 = true := hdep { on := 9, ground := Ground.data } (by simp) rfl
      clear hdep ho
      have hgb := hr.gb
      obtain rfl := hr.f9 g9
      intro hK
      rw [if_pos (by rfl)]
      try simp only [Act.put, List.setIfInBounds_toArray, List.set_cons_zero, List.set_cons_succ]
      go_simp
      exact hK.out _ _ (fun j => if j = 10 then true else ℓ j) ⟨V, Q, x23, x24, x25, x26, x27, x28, x29, x30, x31, (.slice (some ⟨g, off, none⟩) 7 cap), (.pointer (some ⟨g, off + 5, none⟩)), x34, x35, x36, x22, x37, x38, x5, x6, (by simp only [Act.put, List.setIfInBounds_toArray, List.set_cons_zero, List.set_cons_succ]), ⟨hr.gb, hr.gp, hr.c14, hr.c15, hr.c16, hr.c17, hr.c18, hr.f0, hr.f1, hr.f2, hr.f3, hr.f4, hr.f5, hr.f6, hr.f7, hr.f8, hr.f9, (fun _ => rfl), hr.f11, hr.f12, hr.f13, hr.f14, hr.f15, hr.f16, hr.f17, hr.f18⟩⟩ (if_pos rfl) (fun j hj => if_neg hj)
    · revert hK
      obtain rfl := Option.some.inj ho
      have g10 : ℓ 10 = true := hdep { on := 10, ground := Ground.data } (by simp) rfl
      clear hdep ho
      have hgb := hr.gb
      obtain rfl := hr.f10 g10
      intro hK
      rw [if_pos (by rfl)]
      try simp only [Act.put, List.setIfInBounds_toArray, List.set_cons_zero, List.set_cons_succ]
      have cc := (hgb.cell (World.block_lt_of_cell? _ _ e5)).trans e5
      go_simp
      exact hK.out _ _ (fun j => if j = 11 then true else ℓ j) ⟨V, Q, x23, x24, x25, x26, x27, x28, x29, x30, x31, x32, (.pointer (some ⟨g, off + 5, none⟩)), (.string y5), x35, x36, x22, x37, x38, x5, x6, (by simp only [Act.put, List.setIfInBounds_toArray, List.set_cons_zero, List.set_cons_succ]), ⟨hr.gb, hr.gp, hr.c14, hr.c15, hr.c16, hr.c17, hr.c18, hr.f0, hr.f1, hr.f2, hr.f3, hr.f4, hr.f5, hr.f6, hr.f7, hr.f8, hr.f9, hr.f10, (fun _ => rfl), hr.f12, hr.f13, hr.f14, hr.f15, hr.f16, hr.f17, hr.f18⟩⟩ (if_pos rfl) (fun j hj => if_neg hj)
    · revert hK
      obtain rfl := Option.some.inj ho
      have g2 : ℓ 2 = true := hdep { on := 2, ground := Ground.data } (by simp) rfl
      have g5 : ℓ 5 = true := hdep { on := 5, ground := Ground.data } (by simp) rfl
      have g8 : ℓ 8 = true := hdep { on := 8, ground := Ground.data } (by simp) rfl
      have g11 : ℓ 11 = true := hdep { on := 11, ground := Ground.data } (by simp) rfl
      clear hdep ho
      have hgb := hr.gb
      obtain rfl := hr.f2 g2
      obtain rfl := hr.f5 g5
      obtain rfl := hr.f8 g8
      obtain rfl := hr.f11 g11
      intro hK
      rw [if_pos (by rfl)]
      try simp only [Act.put, List.setIfInBounds_toArray, List.set_cons_zero, List.set_cons_succ]
      have hr9 := hr.below (w9 := w'.alloc (.cells (#[.string y0, .string y1, .string y4, .string y5]) 9)) ((Below.refl _ _).alloc (Nat.le_refl _) _)
      go_simp
      exact hK.out _ _ (fun j => if j = 12 then true else ℓ j) ⟨V, Q, x23, x24, (.string y0), x26, x27, (.string y1), x29, x30, (.string y4), x32, x33, (.string y5), (.slice (some ⟨w'.heap.size, 0, none⟩) 4 4), x36, x22, x37, x38, x5, x6, (by simp only [Act.put, List.setIfInBounds_toArray, List.set_cons_zero, List.set_cons_succ]), ⟨hr9.gb, hr9.gp, hr9.c14, hr9.c15, hr9.c16, hr9.c17, hr9.c18, hr9.f0, hr9.f1, hr9.f2, hr9.f3, hr9.f4, hr9.f5, hr9.f6, hr9.f7, hr9.f8, hr9.f9, hr9.f10, hr9.f11, (fun _ => ⟨w'.heap.size, rfl, hgb.size, new_row w' _ _ _ rfl⟩), hr9.f13, hr9.f14, hr9.f15, hr9.f16, hr9.f17, hr9.f18⟩⟩ (if_pos rfl) (fun j hj => if_neg hj)
    · revert hK
      obtain rfl := Option.some.inj ho
      have g12 : ℓ 12 = true := hdep { on := 12, ground := Ground.data } (by simp) rfl
      clear hdep ho
      have hgb := hr.gb
      obtain ⟨N, rfl, hN, hrow⟩ := hr.f12 g12
      intro hK
      rw [if_pos (by rfl)]
      try simp only [Act.put, List.setIfInBounds_toArray, List.set_cons_zero, List.set_cons_succ]
      have z14 : ℓ 14 = false := by
        cases h7 : ℓ 14
        · rfl
        · have := hr.c14 h7; rw [this] at hL; cases hL
      have z15 : ℓ 15 = false := by
        cases h7 : ℓ 15
        · rfl
        · have := hr.c15 h7; rw [this] at hL; cases hL
      have z16 : ℓ 16 = false := by
        cases h7 : ℓ 16
        · rfl
        · have := hr.c16 h7; rw [this] at hL; cases hL
      have z17 : ℓ 17 = false := by
        cases h7 : ℓ 17
        · rfl
        · have := hr.c17 h7; rw [this] at hL; cases hL
      have z18 : ℓ 18 = false := by
        cases h7 : ℓ 18
        · rfl
        · have := hr.c18 h7; rw [this] at hL; cases hL
      go_simp
      go_at_call 23
      refine Calls.mono (KN.out _ _ hrow) ?_
      rintro e w9 ⟨V9, Q9, rfl, hb9, hgp9⟩
      have hr9 := hr.below hb9
      exact hK.out _ _ (fun j => if j = 13 then true else ℓ j) ⟨V9, Q9, x23, x24, x25, x26, x27, x28, x29, x30, x31, x32, x33, x34, (.slice (some ⟨N, 0, none⟩) 4 4), (.tuple #[V9, .bool Q9]), x22, x37, x38, x5, x6, (by simp only [Act.put, List.setIfInBounds_toArray, List.set_cons_zero, List.set_cons_succ]), ⟨hr9.gb, (fun _ => hgp9), (fun g => by have g2 : ℓ 14 = true := g; rw [z14] at g2; cases g2), (fun g => by have g2 : ℓ 15 = true := g; rw [z15] at g2; cases g2), (fun g => by have g2 : ℓ 16 = true := g; rw [z16] at g2; cases g2), (fun g => by have g2 : ℓ 17 = true := g; rw [z17] at g2; cases g2), (fun g => by have g2 : ℓ 18 = true := g; rw [z18] at g2; cases g2), hr9.f0, hr9.f1, hr9.f2, hr9.f3, hr9.f4, hr9.f5, hr9.f6, hr9.f7, hr9.f8, hr9.f9, hr9.f10, hr9.f11, hr9.f12, (fun _ => rfl), (fun g => by have g2 : ℓ 14 = true := g; rw [z14] at g2; cases g2), (fun g => by have g2 : ℓ 15 = true := g; rw [z15] at g2; cases g2), (fun g => by have g2 : ℓ 16 = true := g; rw [z16] at g2; cases g2), (fun g => by have g2 : ℓ 17 = true := g; rw [z17] at g2; cases g2), (fun g => by have g2 : ℓ 18 = true := g; rw [z18] at g2; cases g2)⟩⟩ (if_pos rfl) (fun j hj => if_neg hj)
    · revert hK
      obtain rfl := Option.some.inj ho
      have g13 : ℓ 13 = true := hdep { on := 13, ground := Ground.data } (by simp) rfl
      clear hdep ho
      have hgb := hr.gb
      obtain rfl := hr.f13 g13
      intro hK
      rw [if_pos (by rfl)]
      try simp only [Act.put, List.setIfInBounds_toArray, List.set_cons_zero, List.set_cons_succ]
      go_simp
      exact hK.out _ _ (fun j => if j = 14 then true else ℓ j) ⟨V, Q, x23, x24, x25, x26, x27, x28, x29, x30, x31, x32, x33, x34, x35, (.tuple #[V, .bool Q]), (.tuple #[V, .bool Q]), x37, x38, x5, x6, (by simp only [Act.put, List.setIfInBounds_toArray, List.set_cons_zero, List.set_cons_succ]), ⟨hr.gb, hr.gp, (fun _ => g13), hr.c15, hr.c16, hr.c17, hr.c18, hr.f0, hr.f1, hr.f2, hr.f3, hr.f4, hr.f5, hr.f6, hr.f7, hr.f8, hr.f9, hr.f10, hr.f11, hr.f12, hr.f13, (fun _ => rfl), hr.f15, hr.f16, hr.f17, hr.f18⟩⟩ (if_pos rfl) (fun j hj => if_neg hj)
    · revert hK
      obtain rfl := Option.some.inj ho
      have g14 : ℓ 14 = true := hdep { on := 14, ground := Ground.data } (by simp) rfl
      clear hdep ho
      have hgb := hr.gb
      obtain rfl := hr.f14 g14
      intro hK
      rw [if_pos (by rfl)]
      try simp only [Act.put, List.setIfInBounds_toArray, List.set_cons_zero, List.set_cons_succ]
      go_simp
      exact hK.out _ _ (fun j => if j = 15 then true else ℓ j) ⟨V, Q, x23, x24, x25, x26, x27, x28, x29, x30, x31, x32, x33, x34, x35, x36, (.tuple #[V, .bool Q]), (V), x38, x5, x6, (by simp only [Act.put, List.setIfInBounds_toArray, List.set_cons_zero, List.set_cons_succ]), ⟨hr.gb, hr.gp, hr.c14, (fun _ => hr.c14 g14), hr.c16, hr.c17, hr.c18, hr.f0, hr.f1, hr.f2, hr.f3, hr.f4, hr.f5, hr.f6, hr.f7, hr.f8, hr.f9, hr.f10, hr.f11, hr.f12, hr.f13, hr.f14, (fun _ => rfl), hr.f16, hr.f17, hr.f18⟩⟩ (if_pos rfl) (fun j hj => if_neg hj)
    · revert hK
      obtain rfl := Option.some.inj ho
      have g14 : ℓ 14 = true := hdep { on := 14, ground := Ground.data } (by simp) rfl
      clear hdep ho
      have hgb := hr.gb
      obtain rfl := hr.f14 g14
      intro hK
      rw [if_pos (by rfl)]
      try simp only [Act.put, List.setIfInBounds_toArray, List.set_cons_zero, List.set_cons_succ]
      go_simp
      exact hK.out _ _ (fun j => if j = 16 then true else ℓ j) ⟨V, Q, x23, x24, x25, x26, x27, x28, x29, x30, x31, x32, x33, x34, x35, x36, (.tuple #[V, .bool Q]), x37, (.bool Q), x5, x6, (by simp only [Act.put, List.setIfInBounds_toArray, List.set_cons_zero, List.set_cons_succ]), ⟨hr.gb, hr.gp, hr.c14, hr.c15, (fun _ => hr.c14 g14), hr.c17, hr.c18, hr.f0, hr.f1, hr.f2, hr.f3, hr.f4, hr.f5, hr.f6, hr.f7, hr.f8, hr.f9, hr.f10, hr.f11, hr.f12, hr.f13, hr.f14, hr.f15, (fun _ => rfl), hr.f17, hr.f18⟩⟩ (if_pos rfl) (fun j hj => if_neg hj)
    · revert hK
      obtain rfl := Option.some.inj ho
      have g15 : ℓ 15 = true := hdep { on := 15, ground := Ground.data } (by simp) rfl
      clear hdep ho
      have hgb := hr.gb
      obtain rfl := (hr.f15 g15).symm
      intro hK
      rw [if_pos (by rfl)]
      try simp only [Act.put, List.setIfInBounds_toArray, List.set_cons_zero, List.set_cons_succ]
      go_simp
      exact hK.out _ _ (fun j => if j = 17 then true else ℓ j) ⟨V, Q, x23, x24, x25, x26, x27, x28, x29, x30, x31, x32, x33, x34, x35, x36, x22, (V), x38, (V), x6, (by simp only [Act.put, List.setIfInBounds_toArray, List.set_cons_zero, List.set_cons_succ]), ⟨hr.gb, hr.gp, hr.c14, hr.c15, hr.c16, (fun _ => hr.c15 g15), hr.c18, hr.f0, hr.f1, hr.f2, hr.f3, hr.f4, hr.f5, hr.f6, hr.f7, hr.f8, hr.f9, hr.f10, hr.f11, hr.f12, hr.f13, hr.f14, hr.f15, hr.f16, (fun _ => rfl), hr.f18⟩⟩ (if_pos rfl) (fun j hj => if_neg hj)
    · revert hK
      obtain rfl := Option.some.inj ho
      have g16 : ℓ 16 = true := hdep { on := 16, ground := Ground.data } (by simp) rfl
      clear hdep ho
      have hgb := hr.gb
      obtain rfl := hr.f16 g16
      intro hK
      rw [if_pos (by rfl)]
      try simp only [Act.put, List.setIfInBounds_toArray, List.set_cons_zero, List.set_cons_succ]
      go_simp
      exact hK.out _ _ (fun j => if j = 18 then true else ℓ j) ⟨V, Q, x23, x24, x25, x26, x27, x28, x29, x30, x31, x32, x33, x34, x35, x36, x22, x37, (.bool Q), x5, (.bool Q), (by simp only [Act.put, List.setIfInBounds_toArray, List.set_cons_zero, List.set_cons_succ]), ⟨hr.gb, hr.gp, hr.c14, hr.c15, hr.c16, hr.c17, (fun _ => hr.c16 g16), hr.f0, hr.f1, hr.f2, hr.f3, hr.f4, hr.f5, hr.f6, hr.f7, hr.f8, hr.f9, hr.f10, hr.f11, hr.f12, hr.f13, hr.f14, hr.f15, hr.f16, hr.f17, (fun _ => rfl)⟩⟩ (if_pos rfl) (fun j hj => if_neg hj)
  · rintro a' w' ℓ ℓ' hℓ hI
    rw [← show ℓ = ℓ' from funext hℓ]
    exact hI
structure EsRh (W0 : World) (g : Nat) (off : Nat) (cap : Nat) (y0 : ByteArray) (y1 : ByteArray) (y4 : ByteArray) (y5 : ByteArray) (n0 : Int) (n1 : Int) (n4 : Int) (n5 : Int) (V : Value) (Q : Bool) (w' : World) (b0 b1 b2 b3 b4 b5 b6 b7 b8 b9 b10 b11 b12 b13 b14 b15 b16 b17 b18 : Bool) (x23 x24 x25 x26 x27 x28 x29 x30 x31 x32 x33 x34 x35 x36 x22 x37 x38 x5 x6 : Value) : Prop where
  gb : Below W0.heap.size W0 w'
  gp : b13 = true → NV w' V Q true n0 n1 n4 n5
  c14 : b14 = true → b13 = true
  c15 : b15 = true → b13 = true
  c16 : b16 = true → b13 = true
  c17 : b17 = true → b13 = true
  c18 : b18 = true → b13 = true
  f0 : b0 = true → x23 = .slice (some ⟨g, off, none⟩) 7 cap
  f1 : b1 = true → x24 = .pointer (some ⟨g, off, none⟩)
  f2 : b2 = true → x25 = .string y0
  f3 : b3 = true → x26 = .slice (some ⟨g, off, none⟩) 7 cap
  f4 : b4 = true → x27 = .pointer (some ⟨g, off + 1, none⟩)
  f5 : b5 = true → x28 = .string y1
  f6 : b6 = true → x29 = .slice (some ⟨g, off, none⟩) 7 cap
  f7 : b7 = true → x30 = .pointer (some ⟨g, off + 4, none⟩)
  f8 : b8 = true → x31 = .string y4
  f9 : b9 = true → x32 = .slice (some ⟨g, off, none⟩) 7 cap
  f10 : b10 = true → x33 = .pointer (some ⟨g, off + 5, none⟩)
  f11 : b11 = true → x34 = .string y5
  f12 : b12 = true → ∃ N, x35 = .slice (some ⟨N, 0, none⟩) 4 4 ∧ W0.heap.size ≤ N ∧ w'.heap[N]? = some (.cells #[.string y0, .string y1, .string y4, .string y5] 9 (0, 0))
  f13 : b13 = true → x36 = .tuple #[V, .bool Q]
  f14 : b14 = true → x22 = .tuple #[V, .bool Q]
  f15 : b15 = true → x37 = V
  f16 : b16 = true → x38 = .bool Q
  f17 : b17 = true → x5 = V
  f18 : b18 = true → x6 = .bool Q
theorem EsRh.below {W0 : World} {g : Nat} {off : Nat} {cap : Nat} {y0 : ByteArray} {y1 : ByteArray} {y4 : ByteArray} {y5 : ByteArray} {n0 : Int} {n1 : Int} {n4 : Int} {n5 : Int} {V : Value} {Q : Bool} {w' w9 : World} {b0 b1 b2 b3 b4 b5 b6 b7 b8 b9 b10 b11 b12 b13 b14 b15 b16 b17 b18 : Bool} {x23 x24 x25 x26 x27 x28 x29 x30 x31 x32 x33 x34 x35 x36 x22 x37 x38 x5 x6 : Value} (h : EsRh W0 g off cap y0 y1 y4 y5 n0 n1 n4 n5 V Q w' b0 b1 b2 b3 b4 b5 b6 b7 b8 b9 b10 b11 b12 b13 b14 b15 b16 b17 b18 x23 x24 x25 x26 x27 x28 x29 x30 x31 x32 x33 x34 x35 x36 x22 x37 x38 x5 x6) (hb : Below w'.heap.size w' w9) : EsRh W0 g off cap y0 y1 y4 y5 n0 n1 n4 n5 V Q w9 b0 b1 b2 b3 b4 b5 b6 b7 b8 b9 b10 b11 b12 b13 b14 b15 b16 b17 b18 x23 x24 x25 x26 x27 x28 x29 x30 x31 x32 x33 x34 x35 x36 x22 x37 x38 x5 x6 :=
  ⟨h.gb.trans (hb.mono h.gb.size), fun g => (h.gp g).below hb, h.c14, h.c15, h.c16, h.c17, h.c18, h.f0, h.f1, h.f2, h.f3, h.f4, h.f5, h.f6, h.f7, h.f8, h.f9, h.f10, h.f11, fun g => (h.f12 g).imp fun N k => ⟨k.1, k.2.1, row_below k.2.2 hb⟩, h.f13, h.f14, h.f15, h.f16, h.f17, h.f18⟩
set_option maxRecDepth 40000 in
set_option maxHeartbeats 8000000 in
theorem spec_evof_h (s : ByteArray) (hl : s.size ≤ 100) (y0 y1 y2 y3 y4 y5 y6 : ByteArray) (n0 n1 h2 z n4 n5 h6 : Int) (q b2 b6 : Bool)
    (hq : q = true) (h2f : b2 = false)
    (HSP : Hid (∀ X, Calls Tryd.prog 22 #[.string s] X fun e w' => ∃ g off cap, e = .returned (.slice (some ⟨g, off, none⟩) 7 cap) ∧ Below X.heap.size X w' ∧ w'.cell? ⟨g, off, none⟩ = some (.string y0) ∧ w'.cell? ⟨g, off + 1, none⟩ = some (.string y1) ∧ w'.cell? ⟨g, off + 2, none⟩ = some (.string y2) ∧ w'.cell? ⟨g, off + 3, none⟩ = some (.string y3) ∧ w'.cell? ⟨g, off + 4, none⟩ = some (.string y4) ∧ w'.cell? ⟨g, off + 5, none⟩ = some (.string y5) ∧ w'.cell? ⟨g, off + 6, none⟩ = some (.string y6)))
    (KN : Hid (∀ (X : World) (N : Nat), X.heap[N]? = some (.cells #[.string y0, .string y1, .string y4, .string y5] 9 (0, 0)) → Calls Tryd.prog 23 #[.slice (some ⟨N, 0, none⟩) 4 4] X fun e w' => ∃ V Q, e = .returned (.tuple #[V, .bool Q]) ∧ Below X.heap.size X w' ∧ NV w' V Q q n0 n1 n4 n5))
    (K2 : Hid (∀ X, Calls Tryd.prog 24 #[.string y2] X fun e w' => e = .returned (.tuple #[.int .u32 h2, .bool b2]) ∧ w' = X))
    (K6 : Hid (∀ X, Calls Tryd.prog 24 #[.string y6] X fun e w' => e = .returned (.tuple #[.int .u32 h6, .bool b6]) ∧ w' = X))
    (KO : Hid (∀ X, Calls Tryd.prog 25 #[.string y3] X fun e w' => e = .returned (.int .i64 z) ∧ Below X.heap.size X w')) (w : World) :
    Calls Tryd.prog 9 #[.string s] w fun e w' => e = .returned (.tuple #[.agg #[.int .i64 0, .int .i64 0, .int .u32 0, .int .i64 0, .int .i64 0, .int .i64 0, .int .u32 0], .bool false]) ∧ Below w.heap.size w w' := by
  have HR : Hid ((w.alloc (.cells #[.int .i64 0, .int .i64 0, .int .u32 0, .int .i64 0, .int .i64 0, .int .i64 0, .int .u32 0] 26)).heap[w.heap.size]? = some (.cells #[.int .i64 0, .int .i64 0, .int .u32 0, .int .i64 0, .int .i64 0, .int .i64 0, .int .u32 0] 26 (0, 0))) := new_row w _ _ _ rfl
  have HB : Hid (Below w.heap.size w (w.alloc (.cells #[.int .i64 0, .int .i64 0, .int .u32 0, .int .i64 0, .int .i64 0, .int .i64 0, .int .u32 0] 26))) := (Below.refl _ _).alloc (Nat.le_refl _) _
  subst hq
  subst h2f
  have hl1 : decide ((100 : Int) < (s.size : Int)) = false := decide_eq_false (by omega)
  have HL : Hid (s.size ≤ 100) := hl
  clear hl
  go_enter Tryd.func9, Tryd.ntmps9
  go_wp2_with fail
  refine Calls.mono (HSP.out _) ?_
  rintro e W1 ⟨g, off, cap, rfl, hb1, e0, e1, e2, e3, e4, e5, e6⟩
  have HB1 : Hid (Below w.heap.size w W1) := HB.out.trans (hb1.mono HB.out.size)
  have HR1 : Hid (W1.heap[w.heap.size]? = some (.cells #[.int .i64 0, .int .i64 0, .int .u32 0, .int .i64 0, .int .i64 0, .int .i64 0, .int .u32 0] 26 (0, 0))) := row_below HR.out hb1
  clear hb1 HB HR HSP hl1
  go_wp2
  refine wp_region_inv (by kernel_rfl) (by kernel_rfl) (fun A ℓ a' w' => ∃ (V : Value) (Q : Bool) (x23 x24 x25 x26 x27 x28 x29 x30 x31 x32 x33 x34 x35 x36 x22 x37 x38 x5 x6 : Value), a' = (((((((((((((((((((A.put (some 23) x23).put (some 24) x24).put (some 25) x25).put (some 26) x26).put (some 27) x27).put (some 28) x28).put (some 29) x29).put (some 30) x30).put (some 31) x31).put (some 32) x32).put (some 33) x33).put (some 34) x34).put (some 35) x35).put (some 36) x36).put (some 22) x22).put (some 37) x37).put (some 38) x38).put (some 5) x5).put (some 6) x6) ∧ EsRh (W1) (g) (off) (cap) (y0) (y1) (y4) (y5) (n0) (n1) (n4) (n5) V Q w' (ℓ 0) (ℓ 1) (ℓ 2) (ℓ 3) (ℓ 4) (ℓ 5) (ℓ 6) (ℓ 7) (ℓ 8) (ℓ 9) (ℓ 10) (ℓ 11) (ℓ 12) (ℓ 13) (ℓ 14) (ℓ 15) (ℓ 16) (ℓ 17) (ℓ 18) x23 x24 x25 x26 x27 x28 x29 x30 x31 x32 x33 x34 x35 x36 x22 x37 x38 x5 x6) ?_ ?_ ?_ ?_
  · exact ⟨undef, false, undef, undef, undef, undef, undef, undef, undef, undef, undef, undef, undef, undef, undef, undef, undef, undef, undef, undef, undef, (by simp only [Act.put, List.setIfInBounds_toArray, List.set_cons_zero, List.set_cons_succ]), ⟨(Below.refl _ _).drew, (fun g => by cases g), (fun g => by cases g), (fun g => by cases g), (fun g => by cases g), (fun g => by cases g), (fun g => by cases g), (fun g => by cases g), (fun g => by cases g), (fun g => by cases g), (fun g => by cases g), (fun g => by cases g), (fun g => by cases g), (fun g => by cases g), (fun g => by cases g), (fun g => by cases g), (fun g => by cases g), (fun g => by cases g), (fun g => by cases g), (fun g => by cases g), (fun g => by cases g), (fun g => by cases g), (fun g => by cases g), (fun g => by cases g), (fun g => by cases g), (fun g => by cases g)⟩⟩
  · intro ℓ a' w' hI hall
    obtain ⟨V, Q, x23, x24, x25, x26, x27, x28, x29, x30, x31, x32, x33, x34, x35, x36, x22, x37, x38, x5, x6, rfl, hr⟩ := hI
    have hall' : ∀ i, i < 19 → ℓ i = true := hall
    obtain rfl := hr.f0 (hall' 0 (by decide))
    obtain rfl := hr.f1 (hall' 1 (by decide))
    obtain rfl := hr.f2 (hall' 2 (by decide))
    obtain rfl := hr.f3 (hall' 3 (by decide))
    obtain rfl := hr.f4 (hall' 4 (by decide))
    obtain rfl := hr.f5 (hall' 5 (by decide))
    obtain rfl := hr.f6 (hall' 6 (by decide))
    obtain rfl := hr.f7 (hall' 7 (by decide))
    obtain rfl := hr.f8 (hall' 8 (by decide))
    obtain rfl := hr.f9 (hall' 9 (by decide))
    obtain rfl := hr.f10 (hall' 10 (by decide))
    obtain rfl := hr.f11 (hall' 11 (by decide))
    obtain ⟨N12, rfl, hN12, hrow12⟩ := hr.f12 (hall' 12 (by decide))
    obtain rfl := hr.f13 (hall' 13 (by decide))
    obtain rfl := hr.f14 (hall' 14 (by decide))
    obtain rfl := (hr.f15 (hall' 15 (by decide))).symm
    obtain rfl := hr.f16 (hall' 16 (by decide))
    obtain rfl := (hr.f17 (hall' 17 (by decide))).symm
    obtain rfl := hr.f18 (hall' 18 (by decide))
    have hgp := hr.gp (hall' 13 (by decide))
    have hgb := hr.gb
    clear hall hall' hr
    simp only [Act.put, List.setIfInBounds_toArray, List.set_cons_zero, List.set_cons_succ]
    have hgq := hgp.1
    subst hgq
    have HP : Hid (NV w' V true true n0 n1 n4 n5) := hgp
    have HB2 : Hid (Below w.heap.size w w') := HB1.out.trans (hgb.mono HB1.out.size)
    have HR2 : Hid (w'.heap[w.heap.size]? = some (.cells #[.int .i64 0, .int .i64 0, .int .u32 0, .int .i64 0, .int .i64 0, .int .i64 0, .int .u32 0] 26 (0, 0))) := row_below HR1.out hgb
    replace e2 := (hgb.cell (World.block_lt_of_cell? _ _ e2)).trans e2
    replace e3 := (hgb.cell (World.block_lt_of_cell? _ _ e3)).trans e3
    replace e6 := (hgb.cell (World.block_lt_of_cell? _ _ e6)).trans e6
    clear hgb hgp e0 e1 e4 e5 HB1 HR1 KN hrow12 hN12
    go_wp2_with fail
    refine Calls.mono (K2.out _) ?_
    rintro e W2 ⟨rfl, rfl⟩
    go_wp2_with fail
    refine Calls.mono (K6.out _) ?_
    rintro e W2 ⟨rfl, rfl⟩
    go_wp2_with fail
    refine Calls.mono (KO.out _) ?_
    rintro e W3 ⟨rfl, hb3⟩
    have HB3 : Hid (Below w.heap.size w W3) := HB2.out.trans (hb3.mono HB2.out.size)
    have HR3 : Hid (W3.heap[w.heap.size]? = some (.cells #[.int .i64 0, .int .i64 0, .int .u32 0, .int .i64 0, .int .i64 0, .int .i64 0, .int .u32 0] 26 (0, 0))) := row_below HR2.out hb3
    replace e3 := (hb3.cell (World.block_lt_of_cell? _ _ e3)).trans e3
    have HP3 : Hid (NV W3 V true true n0 n1 n4 n5) := HP.out.below hb3
    clear hb3 e2 e6 HB2 HR2 HP K2 K6 KO
    have HRF : Hid ((W3.setRow w.heap.size #[.int .i64 0, .int .i64 0, .int .u32 0, .int .i64 0, .int .i64 0, .int .i64 0, .int .u32 0]).heap[w.heap.size]? = some (.cells #[.int .i64 0, .int .i64 0, .int .u32 0, .int .i64 0, .int .i64 0, .int .i64 0, .int .u32 0] 26 (0, 0))) := setRow_heap _ _ _ _ _ _ HR3.out
    have m0 := row_c HRF.out 0 _ rfl
    have m1 := row_c HRF.out 1 _ rfl
    have m2 := row_c HRF.out 2 _ rfl
    have m3 := row_c HRF.out 3 _ rfl
    have m4 := row_c HRF.out 4 _ rfl
    have m5 := row_c HRF.out 5 _ rfl
    have m6 := row_c HRF.out 6 _ rfl
    have HBF : Hid (Below w.heap.size w (W3.setRow w.heap.size #[.int .i64 0, .int .i64 0, .int .u32 0, .int .i64 0, .int .i64 0, .int .i64 0, .int .u32 0])) := below_setRow HB3.out (Nat.le_refl _) _
    go_wp2_with (first | (refine wpList_store_row rfl 26 (.tmp 2) (.tmp 77) rfl w.heap.size #[.int .i64 0, .int .i64 0, .int .u32 0, .int .i64 0, .int .i64 0, .int .i64 0, .int .u32 0] rfl rfl 26 #[.int .i64 0, .int .i64 0, .int .u32 0, .int .i64 0, .int .i64 0, .int .i64 0, .int .u32 0] HR3.out (by kernel_rfl) rfl (by simp [Value.oneCell']) ?_) | fail)
    exact bodyPost_ret (v := .tuple #[.agg #[.int .i64 0, .int .i64 0, .int .u32 0, .int .i64 0, .int .i64 0, .int .i64 0, .int .u32 0], .bool false]) (by simp [results, Tryd.results9, go_sem, m0, m1, m2, m3, m4, m5, m6]) rfl ⟨rfl, HBF.out⟩
  · intro ℓ a' w' i o hI ho hi hL hdep K hK
    obtain ⟨V, Q, x23, x24, x25, x26, x27, x28, x29, x30, x31, x32, x33, x34, x35, x36, x22, x37, x38, x5, x6, rfl, hr⟩ := hI
    have hi7 : i < 19 := hi
    have hcs : i = 0 ∨ i = 1 ∨ i = 2 ∨ i = 3 ∨ i = 4 ∨ i = 5 ∨ i = 6 ∨ i = 7 ∨ i = 8 ∨ i = 9 ∨ i = 10 ∨ i = 11 ∨ i = 12 ∨ i = 13 ∨ i = 14 ∨ i = 15 ∨ i = 16 ∨ i = 17 ∨ i = 18 := by omega
    clear hi hi7
    rcases hcs with rfl | rfl | rfl | rfl | rfl | rfl | rfl | rfl | rfl | rfl | rfl | rfl | rfl | rfl | rfl | rfl | rfl | rfl | rfl
    · revert hK
      obtain rfl := Option.some.inj ho
      clear hdep ho
      have hgb := hr.gb
      intro hK
      rw [if_pos (by rfl)]
      try simp only [Act.put, List.setIfInBounds_toArray, List.set_cons_zero, List.set_cons_succ]
      go_simp
      exact hK.out _ _ (fun j => if j = 0 then true else ℓ j) ⟨V, Q, (.slice (some ⟨g, off, none⟩) 7 cap), x24, x25, x26, x27, x28, x29, x30, x31, x32, x33, x34, x35, x36, x22, x37, x38, x5, x6, (by simp only [Act.put, List.setIfInBounds_toArray, List.set_cons_zero, List.set_cons_succ]), ⟨hr.gb, hr.gp, hr.c14, hr.c15, hr.c16, hr.c17, hr.c18, (fun _ => rfl), hr.f1, hr.f2, hr.f3, hr.f4, hr.f5, hr.f6, hr.f7, hr.f8, hr.f9, hr.f10, hr.f11, hr.f12, hr.f13, hr.f14, hr.f15, hr.f16, hr.f17, hr.f18⟩⟩ (if_pos rfl) (fun j hj => if_neg hj)
    · revert hK
      obtain rfl := Option.some.inj ho
      have g0 : ℓ 0 = true := hdep { on := 0, ground := Ground.data } (by simp) rfl
      clear hdep ho
      have hgb := hr.gb
      obtain rfl := hr.f0 g0
      intro hK
      rw [if_pos (by rfl)]
      try simp only [Act.put, List.setIfInBounds_toArray, List.set_cons_zero, List.set_cons_succ]
      go_simp
      exact hK.out _ _ (fun j => if j = 1 then true else ℓ j) ⟨V, Q, (.slice (some ⟨g, off, none⟩) 7 cap), (.pointer (some ⟨g, off, none⟩)), x25, x26, x27, x28, x29, x30, x31, x32, x33, x34, x35, x36, x22, x37, x38, x5, x6, (by simp only [Act.put, List.setIfInBounds_toArray, List.set_cons_zero, List.set_cons_succ]), ⟨hr.gb, hr.gp, hr.c14, hr.c15, hr.c16, hr.c17, hr.c18, hr.f0, (fun _ => rfl), hr.f2, hr.f3, hr.f4, hr.f5, hr.f6, hr.f7, hr.f8, hr.f9, hr.f10, hr.f11, hr.f12, hr.f13, hr.f14, hr.f15, hr.f16, hr.f17, hr.f18⟩⟩ (if_pos rfl) (fun j hj => if_neg hj)
    · revert hK
      obtain rfl := Option.some.inj ho
      have g1 : ℓ 1 = true := hdep { on := 1, ground := Ground.data } (by simp) rfl
      clear hdep ho
      have hgb := hr.gb
      obtain rfl := hr.f1 g1
      intro hK
      rw [if_pos (by rfl)]
      try simp only [Act.put, List.setIfInBounds_toArray, List.set_cons_zero, List.set_cons_succ]
      have cc := (hgb.cell (World.block_lt_of_cell? _ _ e0)).trans e0
      go_simp
      exact hK.out _ _ (fun j => if j = 2 then true else ℓ j) ⟨V, Q, x23, (.pointer (some ⟨g, off, none⟩)), (.string y0), x26, x27, x28, x29, x30, x31, x32, x33, x34, x35, x36, x22, x37, x38, x5, x6, (by simp only [Act.put, List.setIfInBounds_toArray, List.set_cons_zero, List.set_cons_succ]), ⟨hr.gb, hr.gp, hr.c14, hr.c15, hr.c16, hr.c17, hr.c18, hr.f0, hr.f1, (fun _ => rfl), hr.f3, hr.f4, hr.f5, hr.f6, hr.f7, hr.f8, hr.f9, hr.f10, hr.f11, hr.f12, hr.f13, hr.f14, hr.f15, hr.f16, hr.f17, hr.f18⟩⟩ (if_pos rfl) (fun j hj => if_neg hj)
    · revert hK
      obtain rfl := Option.some.inj ho
      clear hdep ho
      have hgb := hr.gb
      intro hK
      rw [if_pos (by rfl)]
      try simp only [Act.put, List.setIfInBounds_toArray, List.set_cons_zero, List.set_cons_succ]
      go_simp
      exact hK.out _ _ (fun j => if j = 3 then true else ℓ j) ⟨V, Q, x23, x24, x25, (.slice (some ⟨g, off, none⟩) 7 cap), x27, x28, x29, x30, x31, x32, x33, x34, x35, x36, x22, x37, x38, x5, x6, (by simp only [Act.put, List.setIfInBounds_toArray, List.set_cons_zero, List.set_cons_succ]), ⟨hr.gb, hr.gp, hr.c14, hr.c15, hr.c16, hr.c17, hr.c18, hr.f0, hr.f1, hr.f2, (fun _ => rfl), hr.f4, hr.f5, hr.f6, hr.f7, hr.f8, hr.f9, hr.f10, hr.f11, hr.f12, hr.f13, hr.f14, hr.f15, hr.f16, hr.f17, hr.f18⟩⟩ (if_pos rfl) (fun j hj => if_neg hj)
    · revert hK
      obtain rfl := Option.some.inj ho
      have g3 : ℓ 3 = true := hdep { on := 3, ground := Ground.data } (by simp) rfl
      clear hdep ho
      have hgb := hr.gb
      obtain rfl := hr.f3 g3
      intro hK
      rw [if_pos (by rfl)]
      try simp only [Act.put, List.setIfInBounds_toArray, List.set_cons_zero, List.set_cons_succ]
      go_simp
      exact hK.out _ _ (fun j => if j = 4 then true else ℓ j) ⟨V, Q, x23, x24, x25, (.slice (some ⟨g, off, none⟩) 7 cap), (.pointer (some ⟨g, off + 1, none⟩)), x28, x29, x30, x31, x32, x33, x34, x35, x36, x22, x37, x38, x5, x6, (by simp only [Act.put, List.setIfInBounds_toArray, List.set_cons_zero, List.set_cons_succ]), ⟨hr.gb, hr.gp, hr.c14, hr.c15, hr.c16, hr.c17, hr.c18, hr.f0, hr.f1, hr.f2, hr.f3, (fun _ => rfl), hr.f5, hr.f6, hr.f7, hr.f8, hr.f9, hr.f10, hr.f11, hr.f12, hr.f13, hr.f14, hr.f15, hr.f16, hr.f17, hr.f18⟩⟩ (if_pos rfl) (fun j hj => if_neg hj)
    · revert hK
      obtain rfl := Option.some.inj ho
      have g4 : ℓ 4 = true := hdep { on := 4, ground := Ground.data } (by simp) rfl
      clear hdep ho
      have hgb := hr.gb
      obtain rfl := hr.f4 g4
      intro hK
      rw [if_pos (by rfl)]
      try simp only [Act.put, List.setIfInBounds_toArray, List.set_cons_zero, List.set_cons_succ]
      have cc := (hgb.cell (World.block_lt_of_cell? _ _ e1)).trans e1
      go_simp
      exact hK.out _ _ (fun j => if j = 5 then true else ℓ j) ⟨V, Q, x23, x24, x25, x26, (.pointer (some ⟨g, off + 1, none⟩)), (.string y1), x29, x30, x31, x32, x33, x34, x35, x36, x22, x37, x38, x5, x6, (by simp only [Act.put, List.setIfInBounds_toArray, List.set_cons_zero, List.set_cons_succ]), ⟨hr.gb, hr.gp, hr.c14, hr.c15, hr.c16, hr.c17, hr.c18, hr.f0, hr.f1, hr.f2, hr.f3, hr.f4, (fun _ => rfl), hr.f6, hr.f7, hr.f8, hr.f9, hr.f10, hr.f11, hr.f12, hr.f13, hr.f14, hr.f15, hr.f16, hr.f17, hr.f18⟩⟩ (if_pos rfl) (fun j hj => if_neg hj)
    · revert hK
      obtain rfl := Option.some.inj ho
      clear hdep ho
      have hgb := hr.gb
      intro hK
      rw [if_pos (by rfl)]
      try simp only [Act.put, List.setIfInBounds_toArray, List.set_cons_zero, List.set_cons_succ]
      go_simp
      exact hK.out _ _ (fun j => if j = 6 then true else ℓ j) ⟨V, Q, x23, x24, x25, x26, x27, x28, (.slice (some ⟨g, off, none⟩) 7 cap), x30, x31, x32, x33, x34, x35, x36, x22, x37, x38, x5, x6, (by simp only [Act.put, List.setIfInBounds_toArray, List.set_cons_zero, List.set_cons_succ]), ⟨hr.gb, hr.gp, hr.c14, hr.c15, hr.c16, hr.c17, hr.c18, hr.f0, hr.f1, hr.f2, hr.f3, hr.f4, hr.f5, (fun _ => rfl), hr.f7, hr.f8, hr.f9, hr.f10, hr.f11, hr.f12, hr.f13, hr.f14, hr.f15, hr.f16, hr.f17, hr.f18⟩⟩ (if_pos rfl) (fun j hj => if_neg hj)
    · revert hK
      obtain rfl := Option.some.inj ho
      have g6 : ℓ 6 = true := hdep { on := 6, ground := Ground.data } (by simp) rfl
      clear hdep ho
      have hgb := hr.gb
      obtain rfl := hr.f6 g6
      intro hK
      rw [if_pos (by rfl)]
      try simp only [Act.put, List.setIfInBounds_toArray, List.set_cons_zero, List.set_cons_succ]
      go_simp
      exact hK.out _ _ (fun j => if j = 7 then true else ℓ j) ⟨V, Q, x23, x24, x25, x26, x27, x28, (.slice (some ⟨g, off, none⟩) 7 cap), (.pointer (some ⟨g, off + 4, none⟩)), x31, x32, x33, x34, x35, x36, x22, x37, x38, x5, x6, (by simp only [Act.put, List.setIfInBounds_toArray, List.set_cons_zero, List.set_cons_succ]), ⟨hr.gb, hr.gp, hr.c14, hr.c15, hr.c16, hr.c17, hr.c18, hr.f0, hr.f1, hr.f2, hr.f3, hr.f4, hr.f5, hr.f6, (fun _ => rfl), hr.f8, hr.f9, hr.f10, hr.f11, hr.f12, hr.f13, hr.f14, hr.f15, hr.f16, hr.f17, hr.f18⟩⟩ (if_pos rfl) (fun j hj => if_neg hj)
    · revert hK
      obtain rfl := Option.some.inj ho
      have g7 : ℓ 7 = true := hdep { on := 7, ground := Ground.data } (by simp) rfl
      clear hdep ho
      have hgb := hr.gb
      obtain rfl := hr.f7 g7
      intro hK
      rw [if_pos (by rfl)]
      try simp only [Act.put, List.setIfInBounds_toArray, List.set_cons_zero, List.set_cons_succ]
      have cc := (hgb.cell (World.block_lt_of_cell? _ _ e4)).trans e4
      go_simp
      exact hK.out _ _ (fun j => if j = 8 then true else ℓ j) ⟨V, Q, x23, x24, x25, x26, x27, x28, x29, (.pointer (some ⟨g, off + 4, none⟩)), (.string y4), x32, x33, x34, x35, x36, x22, x37, x38, x5, x6, (by simp only [Act.put, List.setIfInBounds_toArray, List.set_cons_zero, List.set_cons_succ]), ⟨hr.gb, hr.gp, hr.c14, hr.c15, hr.c16, hr.c17, hr.c18, hr.f0, hr.f1, hr.f2, hr.f3, hr.f4, hr.f5, hr.f6, hr.f7, (fun _ => rfl), hr.f9, hr.f10, hr.f11, hr.f12, hr.f13, hr.f14, hr.f15, hr.f16, hr.f17, hr.f18⟩⟩ (if_pos rfl) (fun j hj => if_neg hj)
    · revert hK
      obtain rfl := Option.some.inj ho
      clear hdep ho
      have hgb := hr.gb
      intro hK
      rw [if_pos (by rfl)]
      try simp only [Act.put, List.setIfInBounds_toArray, List.set_cons_zero, List.set_cons_succ]
      go_simp
      exact hK.out _ _ (fun j => if j = 9 then true else ℓ j) ⟨V, Q, x23, x24, x25, x26, x27, x28, x29, x30, x31, (.slice (some ⟨g, off, none⟩) 7 cap), x33, x34, x35, x36, x22, x37, x38, x5, x6, (by simp only [Act.put, List.setIfInBounds_toArray, List.set_cons_zero, List.set_cons_succ]), ⟨hr.gb, hr.gp, hr.c14, hr.c15, hr.c16, hr.c17, hr.c18, hr.f0, hr.f1, hr.f2, hr.f3, hr.f4, hr.f5, hr.f6, hr.f7, hr.f8, (fun _ => rfl), hr.f10, hr.f11, hr.f12, hr.f13, hr.f14, hr.f15, hr.f16, hr.f17, hr.f18⟩⟩ (if_pos rfl) (fun j hj => if_neg hj)
    · revert hK
      obtain rfl := Option.some.inj ho
      have g9 : ℓ 9 = true := hdep { on := 9, ground := Ground.data } (by simp) rfl
      clear hdep ho
      have hgb := hr.gb
      obtain rfl := hr.f9 g9
      intro hK
      rw [if_pos (by rfl)]
      try simp only [Act.put, List.setIfInBounds_toArray, List.set_cons_zero, List.set_cons_succ]
      go_simp
      exact hK.out _ _ (fun j => if j = 10 then true else ℓ j) ⟨V, Q, x23, x24, x25, x26, x27, x28, x29, x30, x31, (.slice (some ⟨g, off, none⟩) 7 cap), (.pointer (some ⟨g, off + 5, none⟩)), x34, x35, x36, x22, x37, x38, x5, x6, (by simp only [Act.put, List.setIfInBounds_toArray, List.set_cons_zero, List.set_cons_succ]), ⟨hr.gb, hr.gp, hr.c14, hr.c15, hr.c16, hr.c17, hr.c18, hr.f0, hr.f1, hr.f2, hr.f3, hr.f4, hr.f5, hr.f6, hr.f7, hr.f8, hr.f9, (fun _ => rfl), hr.f11, hr.f12, hr.f13, hr.f14, hr.f15, hr.f16, hr.f17, hr.f18⟩⟩ (if_pos rfl) (fun j hj => if_neg hj)
    · revert hK
      obtain rfl := Option.some.inj ho
      have g10 : ℓ 10 = true := hdep { on := 10, ground := Ground.data } (by simp) rfl
      clear hdep ho
      have hgb := hr.gb
      obtain rfl := hr.f10 g10
      intro hK
      rw [if_pos (by rfl)]
      try simp only [Act.put, List.setIfInBounds_toArray, List.set_cons_zero, List.set_cons_succ]
      have cc := (hgb.cell (World.block_lt_of_cell? _ _ e5)).trans e5
      go_simp
      exact hK.out _ _ (fun j => if j = 11 then true else ℓ j) ⟨V, Q, x23, x24, x25, x26, x27, x28, x29, x30, x31, x32, (.pointer (some ⟨g, off + 5, none⟩)), (.string y5), x35, x36, x22, x37, x38, x5, x6, (by simp only [Act.put, List.setIfInBounds_toArray, List.set_cons_zero, List.set_cons_succ]), ⟨hr.gb, hr.gp, hr.c14, hr.c15, hr.c16, hr.c17, hr.c18, hr.f0, hr.f1, hr.f2, hr.f3, hr.f4, hr.f5, hr.f6, hr.f7, hr.f8, hr.f9, hr.f10, (fun _ => rfl), hr.f12, hr.f13, hr.f14, hr.f15, hr.f16, hr.f17, hr.f18⟩⟩ (if_pos rfl) (fun j hj => if_neg hj)
    · revert hK
      obtain rfl := Option.some.inj ho
      have g2 : ℓ 2 = true := hdep { on := 2, ground := Ground.data } (by simp) rfl
      have g5 : ℓ 5 = true := hdep { on := 5, ground := Ground.data } (by simp) rfl
      have g8 : ℓ 8 = true := hdep { on := 8, ground := Ground.data } (by simp) rfl
      have g11 : ℓ 11 = true := hdep { on := 11, ground := Ground.data } (by simp) rfl
      clear hdep ho
      have hgb := hr.gb
      obtain rfl := hr.f2 g2
      obtain rfl := hr.f5 g5
      obtain rfl := hr.f8 g8
      obtain rfl := hr.f11 g11
      intro hK
      rw [if_pos (by rfl)]
      try simp only [Act.put, List.setIfInBounds_toArray, List.set_cons_zero, List.set_cons_succ]
      have hr9 := hr.below (w9 := w'.alloc (.cells (#[.string y0, .string y1, .string y4, .string y5]) 9)) ((Below.refl _ _).alloc (Nat.le_refl _) _)
      go_simp
      exact hK.out _ _ (fun j => if j = 12 then true else ℓ j) ⟨V, Q, x23, x24, (.string y0), x26, x27, (.string y1), x29, x30, (.string y4), x32, x33, (.string y5), (.slice (some ⟨w'.heap.size, 0, none⟩) 4 4), x36, x22, x37, x38, x5, x6, (by simp only [Act.put, List.setIfInBounds_toArray, List.set_cons_zero, List.set_cons_succ]), ⟨hr9.gb, hr9.gp, hr9.c14, hr9.c15, hr9.c16, hr9.c17, hr9.c18, hr9.f0, hr9.f1, hr9.f2, hr9.f3, hr9.f4, hr9.f5, hr9.f6, hr9.f7, hr9.f8, hr9.f9, hr9.f10, hr9.f11, (fun _ => ⟨w'.heap.size, rfl, hgb.size, new_row w' _ _ _ rfl⟩), hr9.f13, hr9.f14, hr9.f15, hr9.f16, hr9.f17, hr9.f18⟩⟩ (if_pos rfl) (fun j hj => if_neg hj)
    · revert hK
      obtain rfl := Option.some.inj ho
      have g12 : ℓ 12 = true := hdep { on := 12, ground := Ground.data } (by simp) rfl
      clear hdep ho
      have hgb := hr.gb
      obtain ⟨N, rfl, hN, hrow⟩ := hr.f12 g12
      intro hK
      rw [if_pos (by rfl)]
      try simp only [Act.put, List.setIfInBounds_toArray, List.set_cons_zero, List.set_cons_succ]
      have z14 : ℓ 14 = false := by
        cases h7 : ℓ 14
        · rfl
        · have := hr.c14 h7; rw [this] at hL; cases hL
      have z15 : ℓ 15 = false := by
        cases h7 : ℓ 15
        · rfl
        · have := hr.c15 h7; rw [this] at hL; cases hL
      have z16 : ℓ 16 = false := by
        cases h7 : ℓ 16
        · rfl
        · have := hr.c16 h7; rw [this] at hL; cases hL
      have z17 : ℓ 17 = false := by
        cases h7 : ℓ 17
        · rfl
        · have := hr.c17 h7; rw [this] at hL; cases hL
      have z18 : ℓ 18 = false := by
        cases h7 : ℓ 18
        · rfl
        · have := hr.c18 h7; rw [this] at hL; cases hL
      go_simp
      go_at_call 23
      refine Calls.mono (KN.out _ _ hrow) ?_
      rintro e w9 ⟨V9, Q9, rfl, hb9, hgp9⟩
      have hr9 := hr.below hb9
      exact hK.out _ _ (fun j => if j = 13 then true else ℓ j) ⟨V9, Q9, x23, x24, x25, x26, x27, x28, x29, x30, x31, x32, x33, x34, (.slice (some ⟨N, 0, none⟩) 4 4), (.tuple #[V9, .bool Q9]), x22, x37, x38, x5, x6, (by simp only [Act.put, List.setIfInBounds_toArray, List.set_cons_zero, List.set_cons_succ]), ⟨hr9.gb, (fun _ => hgp9), (fun g => by have g2 : ℓ 14 = true := g; rw [z14] at g2; cases g2), (fun g => by have g2 : ℓ 15 = true := g; rw [z15] at g2; cases g2), (fun g => by have g2 : ℓ 16 = true := g; rw [z16] at g2; cases g2), (fun g => by have g2 : ℓ 17 = true := g; rw [z17] at g2; cases g2), (fun g => by have g2 : ℓ 18 = true := g; rw [z18] at g2; cases g2), hr9.f0, hr9.f1, hr9.f2, hr9.f3, hr9.f4, hr9.f5, hr9.f6, hr9.f7, hr9.f8, hr9.f9, hr9.f10, hr9.f11, hr9.f12, (fun _ => rfl), (fun g => by have g2 : ℓ 14 = true := g; rw [z14] at g2; cases g2), (fun g => by have g2 : ℓ 15 = true := g; rw [z15] at g2; cases g2), (fun g => by have g2 : ℓ 16 = true := g; rw [z16] at g2; cases g2), (fun g => by have g2 : ℓ 17 = true := g; rw [z17] at g2; cases g2), (fun g => by have g2 : ℓ 18 = true := g; rw [z18] at g2; cases g2)⟩⟩ (if_pos rfl) (fun j hj => if_neg hj)
    · revert hK
      obtain rfl := Option.some.inj ho
      have g13 : ℓ 13 = true := hdep { on := 13, ground := Ground.data } (by simp) rfl
      clear hdep ho
      have hgb := hr.gb
      obtain rfl := hr.f13 g13
      intro hK
      rw [if_pos (by rfl)]
      try simp only [Act.put, List.setIfInBounds_toArray, List.set_cons_zero, List.set_cons_succ]
      go_simp
      exact hK.out _ _ (fun j => if j = 14 then true else ℓ j) ⟨V, Q, x23, x24, x25, x26, x27, x28, x29, x30, x31, x32, x33, x34, x35, (.tuple #[V, .bool Q]), (.tuple #[V, .bool Q]), x37, x38, x5, x6, (by simp only [Act.put, List.setIfInBounds_toArray, List.set_cons_zero, List.set_cons_succ]), ⟨hr.gb, hr.gp, (fun _ => g13), hr.c15, hr.c16, hr.c17, hr.c18, hr.f0, hr.f1, hr.f2, hr.f3, hr.f4, hr.f5, hr.f6, hr.f7, hr.f8, hr.f9, hr.f10, hr.f11, hr.f12, hr.f13, (fun _ => rfl), hr.f15, hr.f16, hr.f17, hr.f18⟩⟩ (if_pos rfl) (fun j hj => if_neg hj)
    · revert hK
      obtain rfl := Option.some.inj ho
      have g14 : ℓ 14 = true := hdep { on := 14, ground := Ground.data } (by simp) rfl
      clear hdep ho
      have hgb := hr.gb
      obtain rfl := hr.f14 g14
      intro hK
      rw [if_pos (by rfl)]
      try simp only [Act.put, List.setIfInBounds_toArray, List.set_cons_zero, List.set_cons_succ]
      go_simp
      exact hK.out _ _ (fun j => if j = 15 then true else ℓ j) ⟨V, Q, x23, x24, x25, x26, x27, x28, x29, x30, x31, x32, x33, x34, x35, x36, (.tuple #[V, .bool Q]), (V), x38, x5, x6, (by simp only [Act.put, List.setIfInBounds_toArray, List.set_cons_zero, List.set_cons_succ]), ⟨hr.gb, hr.gp, hr.c14, (fun _ => hr.c14 g14), hr.c16, hr.c17, hr.c18, hr.f0, hr.f1, hr.f2, hr.f3, hr.f4, hr.f5, hr.f6, hr.f7, hr.f8, hr.f9, hr.f10, hr.f11, hr.f12, hr.f13, hr.f14, (fun _ => rfl), hr.f16, hr.f17, hr.f18⟩⟩ (if_pos rfl) (fun j hj => if_neg hj)
    · revert hK
      obtain rfl := Option.some.inj ho
      have g14 : ℓ 14 = true := hdep { on := 14, ground := Ground.data } (by simp) rfl
      clear hdep ho
      have hgb := hr.gb
      obtain rfl := hr.f14 g14
      intro hK
      rw [if_pos (by rfl)]
      try simp only [Act.put, List.setIfInBounds_toArray, List.set_cons_zero, List.set_cons_succ]
      go_simp
      exact hK.out _ _ (fun j => if j = 16 then true else ℓ j) ⟨V, Q, x23, x24, x25, x26, x27, x28, x29, x30, x31, x32, x33, x34, x35, x36, (.tuple #[V, .bool Q]), x37, (.bool Q), x5, x6, (by simp only [Act.put, List.setIfInBounds_toArray, List.set_cons_zero, List.set_cons_succ]), ⟨hr.gb, hr.gp, hr.c14, hr.c15, (fun _ => hr.c14 g14), hr.c17, hr.c18, hr.f0, hr.f1, hr.f2, hr.f3, hr.f4, hr.f5, hr.f6, hr.f7, hr.f8, hr.f9, hr.f10, hr.f11, hr.f12, hr.f13, hr.f14, hr.f15, (fun _ => rfl), hr.f17, hr.f18⟩⟩ (if_pos rfl) (fun j hj => if_neg hj)
    · revert hK
      obtain rfl := Option.some.inj ho
      have g15 : ℓ 15 = true := hdep { on := 15, ground := Ground.data } (by simp) rfl
      clear hdep ho
      have hgb := hr.gb
      obtain rfl := (hr.f15 g15).symm
      intro hK
      rw [if_pos (by rfl)]
      try simp only [Act.put, List.setIfInBounds_toArray, List.set_cons_zero, List.set_cons_succ]
      go_simp
      exact hK.out _ _ (fun j => if j = 17 then true else ℓ j) ⟨V, Q, x23, x24, x25, x26, x27, x28, x29, x30, x31, x32, x33, x34, x35, x36, x22, (V), x38, (V), x6, (by simp only [Act.put, List.setIfInBounds_toArray, List.set_cons_zero, List.set_cons_succ]), ⟨hr.gb, hr.gp, hr.c14, hr.c15, hr.c16, (fun _ => hr.c15 g15), hr.c18, hr.f0, hr.f1, hr.f2, hr.f3, hr.f4, hr.f5, hr.f6, hr.f7, hr.f8, hr.f9, hr.f10, hr.f11, hr.f12, hr.f13, hr.f14, hr.f15, hr.f16, (fun _ => rfl), hr.f18⟩⟩ (if_pos rfl) (fun j hj => if_neg hj)
    · revert hK
      obtain rfl := Option.some.inj ho
      have g16 : ℓ 16 = true := hdep { on := 16, ground := Ground.data } (by simp) rfl
      clear hdep ho
      have hgb := hr.gb
      obtain rfl := hr.f16 g16
      intro hK
      rw [if_pos (by rfl)]
      try simp only [Act.put, List.setIfInBounds_toArray, List.set_cons_zero, List.set_cons_succ]
      go_simp
      exact hK.out _ _ (fun j => if j = 18 then true else ℓ j) ⟨V, Q, x23, x24, x25, x26, x27, x28, x29, x30, x31, x32, x33, x34, x35, x36, x22, x37, (.bool Q), x5, (.bool Q), (by simp only [Act.put, List.setIfInBounds_toArray, List.set_cons_zero, List.set_cons_succ]), ⟨hr.gb, hr.gp, hr.c14, hr.c15, hr.c16, hr.c17, (fun _ => hr.c16 g16), hr.f0, hr.f1, hr.f2, hr.f3, hr.f4, hr.f5, hr.f6, hr.f7, hr.f8, hr.f9, hr.f10, hr.f11, hr.f12, hr.f13, hr.f14, hr.f15, hr.f16, hr.f17, (fun _ => rfl)⟩⟩ (if_pos rfl) (fun j hj => if_neg hj)
  · rintro a' w' ℓ ℓ' hℓ hI
    rw [← show ℓ = ℓ' from funext hℓ]
    exact hI
structure EsRs (W0 : World) (g : Nat) (off : Nat) (cap : Nat) (y0 : ByteArray) (y1 : ByteArray) (y4 : ByteArray) (y5 : ByteArray) (n0 : Int) (n1 : Int) (n4 : Int) (n5 : Int) (V : Value) (Q : Bool) (w' : World) (b0 b1 b2 b3 b4 b5 b6 b7 b8 b9 b10 b11 b12 b13 b14 b15 b16 b17 b18 : Bool) (x23 x24 x25 x26 x27 x28 x29 x30 x31 x32 x33 x34 x35 x36 x22 x37 x38 x5 x6 : Value) : Prop where
  gb : Below W0.heap.size W0 w'
  gp : b13 = true → NV w' V Q true n0 n1 n4 n5
  c14 : b14 = true → b13 = true
  c15 : b15 = true → b13 = true
  c16 : b16 = true → b13 = true
  c17 : b17 = true → b13 = true
  c18 : b18 = true → b13 = true
  f0 : b0 = true → x23 = .slice (some ⟨g, off, none⟩) 7 cap
  f1 : b1 = true → x24 = .pointer (some ⟨g, off, none⟩)
  f2 : b2 = true → x25 = .string y0
  f3 : b3 = true → x26 = .slice (some ⟨g, off, none⟩) 7 cap
  f4 : b4 = true → x27 = .pointer (some ⟨g, off + 1, none⟩)
  f5 : b5 = true → x28 = .string y1
  f6 : b6 = true → x29 = .slice (some ⟨g, off, none⟩) 7 cap
  f7 : b7 = true → x30 = .pointer (some ⟨g, off + 4, none⟩)
  f8 : b8 = true → x31 = .string y4
  f9 : b9 = true → x32 = .slice (some ⟨g, off, none⟩) 7 cap
  f10 : b10 = true → x33 = .pointer (some ⟨g, off + 5, none⟩)
  f11 : b11 = true → x34 = .string y5
  f12 : b12 = true → ∃ N, x35 = .slice (some ⟨N, 0, none⟩) 4 4 ∧ W0.heap.size ≤ N ∧ w'.heap[N]? = some (.cells #[.string y0, .string y1, .string y4, .string y5] 9 (0, 0))
  f13 : b13 = true → x36 = .tuple #[V, .bool Q]
  f14 : b14 = true → x22 = .tuple #[V, .bool Q]
  f15 : b15 = true → x37 = V
  f16 : b16 = true → x38 = .bool Q
  f17 : b17 = true → x5 = V
  f18 : b18 = true → x6 = .bool Q
theorem EsRs.below {W0 : World} {g : Nat} {off : Nat} {cap : Nat} {y0 : ByteArray} {y1 : ByteArray} {y4 : ByteArray} {y5 : ByteArray} {n0 : Int} {n1 : Int} {n4 : Int} {n5 : Int} {V : Value} {Q : Bool} {w' w9 : World} {b0 b1 b2 b3 b4 b5 b6 b7 b8 b9 b10 b11 b12 b13 b14 b15 b16 b17 b18 : Bool} {x23 x24 x25 x26 x27 x28 x29 x30 x31 x32 x33 x34 x35 x36 x22 x37 x38 x5 x6 : Value} (h : EsRs W0 g off cap y0 y1 y4 y5 n0 n1 n4 n5 V Q w' b0 b1 b2 b3 b4 b5 b6 b7 b8 b9 b10 b11 b12 b13 b14 b15 b16 b17 b18 x23 x24 x25 x26 x27 x28 x29 x30 x31 x32 x33 x34 x35 x36 x22 x37 x38 x5 x6) (hb : Below w'.heap.size w' w9) : EsRs W0 g off cap y0 y1 y4 y5 n0 n1 n4 n5 V Q w9 b0 b1 b2 b3 b4 b5 b6 b7 b8 b9 b10 b11 b12 b13 b14 b15 b16 b17 b18 x23 x24 x25 x26 x27 x28 x29 x30 x31 x32 x33 x34 x35 x36 x22 x37 x38 x5 x6 :=
  ⟨h.gb.trans (hb.mono h.gb.size), fun g => (h.gp g).below hb, h.c14, h.c15, h.c16, h.c17, h.c18, h.f0, h.f1, h.f2, h.f3, h.f4, h.f5, h.f6, h.f7, h.f8, h.f9, h.f10, h.f11, fun g => (h.f12 g).imp fun N k => ⟨k.1, k.2.1, row_below k.2.2 hb⟩, h.f13, h.f14, h.f15, h.f16, h.f17, h.f18⟩
set_option maxRecDepth 40000 in
set_option maxHeartbeats 8000000 in
theorem spec_evof_s (s : ByteArray) (hl : s.size ≤ 100) (y0 y1 y2 y3 y4 y5 y6 : ByteArray) (n0 n1 h2 z n4 n5 h6 : Int) (q b2 b6 : Bool)
    (hq : q = true) (h2t : b2 = true) (h6f : b6 = false)
    (HSP : Hid (∀ X, Calls Tryd.prog 22 #[.string s] X fun e w' => ∃ g off cap, e = .returned (.slice (some ⟨g, off, none⟩) 7 cap) ∧ Below X.heap.size X w' ∧ w'.cell? ⟨g, off, none⟩ = some (.string y0) ∧ w'.cell? ⟨g, off + 1, none⟩ = some (.string y1) ∧ w'.cell? ⟨g, off + 2, none⟩ = some (.string y2) ∧ w'.cell? ⟨g, off + 3, none⟩ = some (.string y3) ∧ w'.cell? ⟨g, off + 4, none⟩ = some (.string y4) ∧ w'.cell? ⟨g, off + 5, none⟩ = some (.string y5) ∧ w'.cell? ⟨g, off + 6, none⟩ = some (.string y6)))
    (KN : Hid (∀ (X : World) (N : Nat), X.heap[N]? = some (.cells #[.string y0, .string y1, .string y4, .string y5] 9 (0, 0)) → Calls Tryd.prog 23 #[.slice (some ⟨N, 0, none⟩) 4 4] X fun e w' => ∃ V Q, e = .returned (.tuple #[V, .bool Q]) ∧ Below X.heap.size X w' ∧ NV w' V Q q n0 n1 n4 n5))
    (K2 : Hid (∀ X, Calls Tryd.prog 24 #[.string y2] X fun e w' => e = .returned (.tuple #[.int .u32 h2, .bool b2]) ∧ w' = X))
    (K6 : Hid (∀ X, Calls Tryd.prog 24 #[.string y6] X fun e w' => e = .returned (.tuple #[.int .u32 h6, .bool b6]) ∧ w' = X))
    (KO : Hid (∀ X, Calls Tryd.prog 25 #[.string y3] X fun e w' => e = .returned (.int .i64 z) ∧ Below X.heap.size X w')) (w : World) :
    Calls Tryd.prog 9 #[.string s] w fun e w' => e = .returned (.tuple #[.agg #[.int .i64 0, .int .i64 0, .int .u32 0, .int .i64 0, .int .i64 0, .int .i64 0, .int .u32 0], .bool false]) ∧ Below w.heap.size w w' := by
  have HR : Hid ((w.alloc (.cells #[.int .i64 0, .int .i64 0, .int .u32 0, .int .i64 0, .int .i64 0, .int .i64 0, .int .u32 0] 26)).heap[w.heap.size]? = some (.cells #[.int .i64 0, .int .i64 0, .int .u32 0, .int .i64 0, .int .i64 0, .int .i64 0, .int .u32 0] 26 (0, 0))) := new_row w _ _ _ rfl
  have HB : Hid (Below w.heap.size w (w.alloc (.cells #[.int .i64 0, .int .i64 0, .int .u32 0, .int .i64 0, .int .i64 0, .int .i64 0, .int .u32 0] 26))) := (Below.refl _ _).alloc (Nat.le_refl _) _
  subst hq
  subst h2t
  subst h6f
  have hl1 : decide ((100 : Int) < (s.size : Int)) = false := decide_eq_false (by omega)
  have HL : Hid (s.size ≤ 100) := hl
  clear hl
  go_enter Tryd.func9, Tryd.ntmps9
  go_wp2_with fail
  refine Calls.mono (HSP.out _) ?_
  rintro e W1 ⟨g, off, cap, rfl, hb1, e0, e1, e2, e3, e4, e5, e6⟩
  have HB1 : Hid (Below w.heap.size w W1) := HB.out.trans (hb1.mono HB.out.size)
  have HR1 : Hid (W1.heap[w.heap.size]? = some (.cells #[.int .i64 0, .int .i64 0, .int .u32 0, .int .i64 0, .int .i64 0, .int .i64 0, .int .u32 0] 26 (0, 0))) := row_below HR.out hb1
  clear hb1 HB HR HSP hl1
  go_wp2
  refine wp_region_inv (by kernel_rfl) (by kernel_rfl) (fun A ℓ a' w' => ∃ (V : Value) (Q : Bool) (x23 x24 x25 x26 x27 x28 x29 x30 x31 x32 x33 x34 x35 x36 x22 x37 x38 x5 x6 : Value), a' = (((((((((((((((((((A.put (some 23) x23).put (some 24) x24).put (some 25) x25).put (some 26) x26).put (some 27) x27).put (some 28) x28).put (some 29) x29).put (some 30) x30).put (some 31) x31).put (some 32) x32).put (some 33) x33).put (some 34) x34).put (some 35) x35).put (some 36) x36).put (some 22) x22).put (some 37) x37).put (some 38) x38).put (some 5) x5).put (some 6) x6) ∧ EsRs (W1) (g) (off) (cap) (y0) (y1) (y4) (y5) (n0) (n1) (n4) (n5) V Q w' (ℓ 0) (ℓ 1) (ℓ 2) (ℓ 3) (ℓ 4) (ℓ 5) (ℓ 6) (ℓ 7) (ℓ 8) (ℓ 9) (ℓ 10) (ℓ 11) (ℓ 12) (ℓ 13) (ℓ 14) (ℓ 15) (ℓ 16) (ℓ 17) (ℓ 18) x23 x24 x25 x26 x27 x28 x29 x30 x31 x32 x33 x34 x35 x36 x22 x37 x38 x5 x6) ?_ ?_ ?_ ?_
  · exact ⟨undef, false, undef, undef, undef, undef, undef, undef, undef, undef, undef, undef, undef, undef, undef, undef, undef, undef, undef, undef, undef, (by simp only [Act.put, List.setIfInBounds_toArray, List.set_cons_zero, List.set_cons_succ]), ⟨(Below.refl _ _).drew, (fun g => by cases g), (fun g => by cases g), (fun g => by cases g), (fun g => by cases g), (fun g => by cases g), (fun g => by cases g), (fun g => by cases g), (fun g => by cases g), (fun g => by cases g), (fun g => by cases g), (fun g => by cases g), (fun g => by cases g), (fun g => by cases g), (fun g => by cases g), (fun g => by cases g), (fun g => by cases g), (fun g => by cases g), (fun g => by cases g), (fun g => by cases g), (fun g => by cases g), (fun g => by cases g), (fun g => by cases g), (fun g => by cases g), (fun g => by cases g), (fun g => by cases g)⟩⟩
  · intro ℓ a' w' hI hall
    obtain ⟨V, Q, x23, x24, x25, x26, x27, x28, x29, x30, x31, x32, x33, x34, x35, x36, x22, x37, x38, x5, x6, rfl, hr⟩ := hI
    have hall' : ∀ i, i < 19 → ℓ i = true := hall
    obtain rfl := hr.f0 (hall' 0 (by decide))
    obtain rfl := hr.f1 (hall' 1 (by decide))
    obtain rfl := hr.f2 (hall' 2 (by decide))
    obtain rfl := hr.f3 (hall' 3 (by decide))
    obtain rfl := hr.f4 (hall' 4 (by decide))
    obtain rfl := hr.f5 (hall' 5 (by decide))
    obtain rfl := hr.f6 (hall' 6 (by decide))
    obtain rfl := hr.f7 (hall' 7 (by decide))
    obtain rfl := hr.f8 (hall' 8 (by decide))
    obtain rfl := hr.f9 (hall' 9 (by decide))
    obtain rfl := hr.f10 (hall' 10 (by decide))
    obtain rfl := hr.f11 (hall' 11 (by decide))
    obtain ⟨N12, rfl, hN12, hrow12⟩ := hr.f12 (hall' 12 (by decide))
    obtain rfl := hr.f13 (hall' 13 (by decide))
    obtain rfl := hr.f14 (hall' 14 (by decide))
    obtain rfl := (hr.f15 (hall' 15 (by decide))).symm
    obtain rfl := hr.f16 (hall' 16 (by decide))
    obtain rfl := (hr.f17 (hall' 17 (by decide))).symm
    obtain rfl := hr.f18 (hall' 18 (by decide))
    have hgp := hr.gp (hall' 13 (by decide))
    have hgb := hr.gb
    clear hall hall' hr
    simp only [Act.put, List.setIfInBounds_toArray, List.set_cons_zero, List.set_cons_succ]
    have hgq := hgp.1
    subst hgq
    have HP : Hid (NV w' V true true n0 n1 n4 n5) := hgp
    have HB2 : Hid (Below w.heap.size w w') := HB1.out.trans (hgb.mono HB1.out.size)
    have HR2 : Hid (w'.heap[w.heap.size]? = some (.cells #[.int .i64 0, .int .i64 0, .int .u32 0, .int .i64 0, .int .i64 0, .int .i64 0, .int .u32 0] 26 (0, 0))) := row_below HR1.out hgb
    replace e2 := (hgb.cell (World.block_lt_of_cell? _ _ e2)).trans e2
    replace e3 := (hgb.cell (World.block_lt_of_cell? _ _ e3)).trans e3
    replace e6 := (hgb.cell (World.block_lt_of_cell? _ _ e6)).trans e6
    clear hgb hgp e0 e1 e4 e5 HB1 HR1 KN hrow12 hN12
    go_wp2_with fail
    refine Calls.mono (K2.out _) ?_
    rintro e W2 ⟨rfl, rfl⟩
    go_wp2_with fail
    refine Calls.mono (K6.out _) ?_
    rintro e W2 ⟨rfl, rfl⟩
    go_wp2_with fail
    refine Calls.mono (KO.out _) ?_
    rintro e W3 ⟨rfl, hb3⟩
    have HB3 : Hid (Below w.heap.size w W3) := HB2.out.trans (hb3.mono HB2.out.size)
    have HR3 : Hid (W3.heap[w.heap.size]? = some (.cells #[.int .i64 0, .int .i64 0, .int .u32 0, .int .i64 0, .int .i64 0, .int .i64 0, .int .u32 0] 26 (0, 0))) := row_below HR2.out hb3
    replace e3 := (hb3.cell (World.block_lt_of_cell? _ _ e3)).trans e3
    have HP3 : Hid (NV W3 V true true n0 n1 n4 n5) := HP.out.below hb3
    clear hb3 e2 e6 HB2 HR2 HP K2 K6 KO
    have HRF : Hid ((W3.setRow w.heap.size #[.int .i64 0, .int .i64 0, .int .u32 0, .int .i64 0, .int .i64 0, .int .i64 0, .int .u32 0]).heap[w.heap.size]? = some (.cells #[.int .i64 0, .int .i64 0, .int .u32 0, .int .i64 0, .int .i64 0, .int .i64 0, .int .u32 0] 26 (0, 0))) := setRow_heap _ _ _ _ _ _ HR3.out
    have m0 := row_c HRF.out 0 _ rfl
    have m1 := row_c HRF.out 1 _ rfl
    have m2 := row_c HRF.out 2 _ rfl
    have m3 := row_c HRF.out 3 _ rfl
    have m4 := row_c HRF.out 4 _ rfl
    have m5 := row_c HRF.out 5 _ rfl
    have m6 := row_c HRF.out 6 _ rfl
    have HBF : Hid (Below w.heap.size w (W3.setRow w.heap.size #[.int .i64 0, .int .i64 0, .int .u32 0, .int .i64 0, .int .i64 0, .int .i64 0, .int .u32 0])) := below_setRow HB3.out (Nat.le_refl _) _
    go_wp2_with (first | (refine wpList_store_row rfl 26 (.tmp 2) (.tmp 77) rfl w.heap.size #[.int .i64 0, .int .i64 0, .int .u32 0, .int .i64 0, .int .i64 0, .int .i64 0, .int .u32 0] rfl rfl 26 #[.int .i64 0, .int .i64 0, .int .u32 0, .int .i64 0, .int .i64 0, .int .i64 0, .int .u32 0] HR3.out (by kernel_rfl) rfl (by simp [Value.oneCell']) ?_) | fail)
    exact bodyPost_ret (v := .tuple #[.agg #[.int .i64 0, .int .i64 0, .int .u32 0, .int .i64 0, .int .i64 0, .int .i64 0, .int .u32 0], .bool false]) (by simp [results, Tryd.results9, go_sem, m0, m1, m2, m3, m4, m5, m6]) rfl ⟨rfl, HBF.out⟩
  · intro ℓ a' w' i o hI ho hi hL hdep K hK
    obtain ⟨V, Q, x23, x24, x25, x26, x27, x28, x29, x30, x31, x32, x33, x34, x35, x36, x22, x37, x38, x5, x6, rfl, hr⟩ := hI
    have hi7 : i < 19 := hi
    have hcs : i = 0 ∨ i = 1 ∨ i = 2 ∨ i = 3 ∨ i = 4 ∨ i = 5 ∨ i = 6 ∨ i = 7 ∨ i = 8 ∨ i = 9 ∨ i = 10 ∨ i = 11 ∨ i = 12 ∨ i = 13 ∨ i = 14 ∨ i = 15 ∨ i = 16 ∨ i = 17 ∨ i = 18 := by omega
    clear hi hi7
    rcases hcs with rfl | rfl | rfl | rfl | rfl | rfl | rfl | rfl | rfl | rfl | rfl | rfl | rfl | rfl | rfl | rfl | rfl | rfl | rfl
    · revert hK
      obtain rfl := Option.some.inj ho
      clear hdep ho
      have hgb := hr.gb
      intro hK
      rw [if_pos (by rfl)]
      try simp only [Act.put, List.setIfInBounds_toArray, List.set_cons_zero, List.set_cons_succ]
      go_simp
      exact hK.out _ _ (fun j => if j = 0 then true else ℓ j) ⟨V, Q, (.slice (some ⟨g, off, none⟩) 7 cap), x24, x25, x26, x27, x28, x29, x30, x31, x32, x33, x34, x35, x36, x22, x37, x38, x5, x6, (by simp only [Act.put, List.setIfInBounds_toArray, List.set_cons_zero, List.set_cons_succ]), ⟨hr.gb, hr.gp, hr.c14, hr.c15, hr.c16, hr.c17, hr.c18, (fun _ => rfl), hr.f1, hr.f2, hr.f3, hr.f4, hr.f5, hr.f6, hr.f7, hr.f8, hr.f9, hr.f10, hr.f11, hr.f12, hr.f13, hr.f14, hr.f15, hr.f16, hr.f17, hr.f18⟩⟩ (if_pos rfl) (fun j hj => if_neg hj)
    · revert hK
      obtain rfl := Option.some.inj ho
      have g0 : ℓ 0 = true := hdep { on := 0, ground := Ground.data } (by simp) rfl
      clear hdep ho
      have hgb := hr.gb
      obtain rfl := hr.f0 g0
      intro hK
      rw [if_pos (by rfl)]
      try simp only [Act.put, List.setIfInBounds_toArray, List.set_cons_zero, List.set_cons_succ]
      go_simp
      exact hK.out _ _ (fun j => if j = 1 then true else ℓ j) ⟨V, Q, (.slice (some ⟨g, off, none⟩) 7 cap), (.pointer (some ⟨g, off, none⟩)), x25, x26, x27, x28, x29, x30, x31, x32, x33, x34, x35, x36, x22, x37, x38, x5, x6, (by simp only [Act.put, List.setIfInBounds_toArray, List.set_cons_zero, List.set_cons_succ]), ⟨hr.gb, hr.gp, hr.c14, hr.c15, hr.c16, hr.c17, hr.c18, hr.f0, (fun _ => rfl), hr.f2, hr.f3, hr.f4, hr.f5, hr.f6, hr.f7, hr.f8, hr.f9, hr.f10, hr.f11, hr.f12, hr.f13, hr.f14, hr.f15, hr.f16, hr.f17, hr.f18⟩⟩ (if_pos rfl) (fun j hj => if_neg hj)
    · revert hK
      obtain rfl := Option.some.inj ho
      have g1 : ℓ 1 = true := hdep { on := 1, ground := Ground.data } (by simp) rfl
      clear hdep ho
      have hgb := hr.gb
      obtain rfl := hr.f1 g1
      intro hK
      rw [if_pos (by rfl)]
      try simp only [Act.put, List.setIfInBounds_toArray, List.set_cons_zero, List.set_cons_succ]
      have cc := (hgb.cell (World.block_lt_of_cell? _ _ e0)).trans e0
      go_simp
      exact hK.out _ _ (fun j => if j = 2 then true else ℓ j) ⟨V, Q, x23, (.pointer (some ⟨g, off, none⟩)), (.string y0), x26, x27, x28, x29, x30, x31, x32, x33, x34, x35, x36, x22, x37, x38, x5, x6, (by simp only [Act.put, List.setIfInBounds_toArray, List.set_cons_zero, List.set_cons_succ]), ⟨hr.gb, hr.gp, hr.c14, hr.c15, hr.c16, hr.c17, hr.c18, hr.f0, hr.f1, (fun _ => rfl), hr.f3, hr.f4, hr.f5, hr.f6, hr.f7, hr.f8, hr.f9, hr.f10, hr.f11, hr.f12, hr.f13, hr.f14, hr.f15, hr.f16, hr.f17, hr.f18⟩⟩ (if_pos rfl) (fun j hj => if_neg hj)
    · revert hK
      obtain rfl := Option.some.inj ho
      clear hdep ho
      have hgb := hr.gb
      intro hK
      rw [if_pos (by rfl)]
      try simp only [Act.put, List.setIfInBounds_toArray, List.set_cons_zero, List.set_cons_succ]
      go_simp
      exact hK.out _ _ (fun j => if j = 3 then true else ℓ j) ⟨V, Q, x23, x24, x25, (.slice (some ⟨g, off, none⟩) 7 cap), x27, x28, x29, x30, x31, x32, x33, x34, x35, x36, x22, x37, x38, x5, x6, (by simp only [Act.put, List.setIfInBounds_toArray, List.set_cons_zero, List.set_cons_succ]), ⟨hr.gb, hr.gp, hr.c14, hr.c15, hr.c16, hr.c17, hr.c18, hr.f0, hr.f1, hr.f2, (fun _ => rfl), hr.f4, hr.f5, hr.f6, hr.f7, hr.f8, hr.f9, hr.f10, hr.f11, hr.f12, hr.f13, hr.f14, hr.f15, hr.f16, hr.f17, hr.f18⟩⟩ (if_pos rfl) (fun j hj => if_neg hj)
    · revert hK
      obtain rfl := Option.some.inj ho
      have g3 : ℓ 3 = true := hdep { on := 3, ground := Ground.data } (by simp) rfl
      clear hdep ho
      have hgb := hr.gb
      obtain rfl := hr.f3 g3
      intro hK
      rw [if_pos (by rfl)]
      try simp only [Act.put, List.setIfInBounds_toArray, List.set_cons_zero, List.set_cons_succ]
      go_simp
      exact hK.out _ _ (fun j => if j = 4 then true else ℓ j) ⟨V, Q, x23, x24, x25, (.slice (some ⟨g, off, none⟩) 7 cap), (.pointer (some ⟨g, off + 1, none⟩)), x28, x29, x30, x31, x32, x33, x34, x35, x36, x22, x37, x38, x5, x6, (by simp only [Act.put, List.setIfInBounds_toArray, List.set_cons_zero, List.set_cons_succ]), ⟨hr.gb, hr.gp, hr.c14, hr.c15, hr.c16, hr.c17, hr.c18, hr.f0, hr.f1, hr.f2, hr.f3, (fun _ => rfl), hr.f5, hr.f6, hr.f7, hr.f8, hr.f9, hr.f10, hr.f11, hr.f12, hr.f13, hr.f14, hr.f15, hr.f16, hr.f17, hr.f18⟩⟩ (if_pos rfl) (fun j hj => if_neg hj)
    · revert hK
      obtain rfl := Option.some.inj ho
      have g4 : ℓ 4 = true := hdep { on := 4, ground := Ground.data } (by simp) rfl
      clear hdep ho
      have hgb := hr.gb
      obtain rfl := hr.f4 g4
      intro hK
      rw [if_pos (by rfl)]
      try simp only [Act.put, List.setIfInBounds_toArray, List.set_cons_zero, List.set_cons_succ]
      have cc := (hgb.cell (World.block_lt_of_cell? _ _ e1)).trans e1
      go_simp
      exact hK.out _ _ (fun j => if j = 5 then true else ℓ j) ⟨V, Q, x23, x24, x25, x26, (.pointer (some ⟨g, off + 1, none⟩)), (.string y1), x29, x30, x31, x32, x33, x34, x35, x36, x22, x37, x38, x5, x6, (by simp only [Act.put, List.setIfInBounds_toArray, List.set_cons_zero, List.set_cons_succ]), ⟨hr.gb, hr.gp, hr.c14, hr.c15, hr.c16, hr.c17, hr.c18, hr.f0, hr.f1, hr.f2, hr.f3, hr.f4, (fun _ => rfl), hr.f6, hr.f7, hr.f8, hr.f9, hr.f10, hr.f11, hr.f12, hr.f13, hr.f14, hr.f15, hr.f16, hr.f17, hr.f18⟩⟩ (if_pos rfl) (fun j hj => if_neg hj)
    · revert hK
      obtain rfl := Option.some.inj ho
      clear hdep ho
      have hgb := hr.gb
      intro hK
      rw [if_pos (by rfl)]
      try simp only [Act.put, List.setIfInBounds_toArray, List.set_cons_zero, List.set_cons_succ]
      go_simp
      exact hK.out _ _ (fun j => if j = 6 then true else ℓ j) ⟨V, Q, x23, x24, x25, x26, x27, x28, (.slice (some ⟨g, off, none⟩) 7 cap), x30, x31, x32, x33, x34, x35, x36, x22, x37, x38, x5, x6, (by simp only [Act.put, List.setIfInBounds_toArray, List.set_cons_zero, List.set_cons_succ]), ⟨hr.gb, hr.gp, hr.c14, hr.c15, hr.c16, hr.c17, hr.c18, hr.f0, hr.f1, hr.f2, hr.f3, hr.f4, hr.f5, (fun _ => rfl), hr.f7, hr.f8, hr.f9, hr.f10, hr.f11, hr.f12, hr.f13, hr.f14, hr.f15, hr.f16, hr.f17, hr.f18⟩⟩ (if_pos rfl) (fun j hj => if_neg hj)
    · revert hK
      obtain rfl := Option.some.inj ho
      have g6 : ℓ 6 = true := hdep { on := 6, ground := Ground.data } (by simp) rfl
      clear hdep ho
      have hgb := hr.gb
      obtain rfl := hr.f6 g6
      intro hK
      rw [if_pos (by rfl)]
      try simp only [Act.put, List.setIfInBounds_toArray, List.set_cons_zero, List.set_cons_succ]
      go_simp
      exact hK.out _ _ (fun j => if j = 7 then true else ℓ j) ⟨V, Q, x23, x24, x25, x26, x27, x28, (.slice (some ⟨g, off, none⟩) 7 cap), (.pointer (some ⟨g, off + 4, none⟩)), x31, x32, x33, x34, x35, x36, x22, x37, x38, x5, x6, (by simp only [Act.put, List.setIfInBounds_toArray, List.set_cons_zero, List.set_cons_succ]), ⟨hr.gb, hr.gp, hr.c14, hr.c15, hr.c16, hr.c17, hr.c18, hr.f0, hr.f1, hr.f2, hr.f3, hr.f4, hr.f5, hr.f6, (fun _ => rfl), hr.f8, hr.f9, hr.f10, hr.f11, hr.f12, hr.f13, hr.f14, hr.f15, hr.f16, hr.f17, hr.f18⟩⟩ (if_pos rfl) (fun j hj => if_neg hj)
    · revert hK
      obtain rfl := Option.some.inj ho
      have g7 : ℓ 7 = true := hdep { on := 7, ground := Ground.data } (by simp) rfl
      clear hdep ho
      have hgb := hr.gb
      obtain rfl := hr.f7 g7
      intro hK
      rw [if_pos (by rfl)]
      try simp only [Act.put, List.setIfInBounds_toArray, List.set_cons_zero, List.set_cons_succ]
      have cc := (hgb.cell (World.block_lt_of_cell? _ _ e4)).trans e4
      go_simp
      exact hK.out _ _ (fun j => if j = 8 then true else ℓ j) ⟨V, Q, x23, x24, x25, x26, x27, x28, x29, (.pointer (some ⟨g, off + 4, none⟩)), (.string y4), x32, x33, x34, x35, x36, x22, x37, x38, x5, x6, (by simp only [Act.put, List.setIfInBounds_toArray, List.set_cons_zero, List.set_cons_succ]), ⟨hr.gb, hr.gp, hr.c14, hr.c15, hr.c16, hr.c17, hr.c18, hr.f0, hr.f1, hr.f2, hr.f3, hr.f4, hr.f5, hr.f6, hr.f7, (fun _ => rfl), hr.f9, hr.f10, hr.f11, hr.f12, hr.f13, hr.f14, hr.f15, hr.f16, hr.f17, hr.f18⟩⟩ (if_pos rfl) (fun j hj => if_neg hj)
    · revert hK
      obtain rfl := Option.some.inj ho
      clear hdep ho
      have hgb := hr.gb
      intro hK
      rw [if_pos (by rfl)]
      try simp only [Act.put, List.setIfInBounds_toArray, List.set_cons_zero, List.set_cons_succ]
      go_simp
      exact hK.out _ _ (fun j => if j = 9 then true else ℓ j) ⟨V, Q, x23, x24, x25, x26, x27, x28, x29, x30, x31, (.slice (some ⟨g, off, none⟩) 7 cap), x33, x34, x35, x36, x22, x37, x38, x5, x6, (by simp only [Act.put, List.setIfInBounds_toArray, List.set_cons_zero, List.set_cons_succ]), ⟨hr.gb, hr.gp, hr.c14, hr.c15, hr.c16, hr.c17, hr.c18, hr.f0, hr.f1, hr.f2, hr.f3, hr.f4, hr.f5, hr.f6, hr.f7, hr.f8, (fun _ => rfl), hr.f10, hr.f11, hr.f12, hr.f13, hr.f14, hr.f15, hr.f16, hr.f17, hr.f18⟩⟩ (if_pos rfl) (fun j hj => if_neg hj)
    · revert hK
      obtain rfl := Option.some.inj ho
      have g9 : ℓ 9 = true := hdep { on := 9, ground := Ground.data } (by simp) rfl
      clear hdep ho
      have hgb := hr.gb
      obtain rfl := hr.f9 g9
      intro hK
      rw [if_pos (by rfl)]
      try simp only [Act.put, List.setIfInBounds_toArray, List.set_cons_zero, List.set_cons_succ]
      go_simp
      exact hK.out _ _ (fun j => if j = 10 then true else ℓ j) ⟨V, Q, x23, x24, x25, x26, x27, x28, x29, x30, x31, (.slice (some ⟨g, off, none⟩) 7 cap), (.pointer (some ⟨g, off + 5, none⟩)), x34, x35, x36, x22, x37, x38, x5, x6, (by simp only [Act.put, List.setIfInBounds_toArray, List.set_cons_zero, List.set_cons_succ]), ⟨hr.gb, hr.gp, hr.c14, hr.c15, hr.c16, hr.c17, hr.c18, hr.f0, hr.f1, hr.f2, hr.f3, hr.f4, hr.f5, hr.f6, hr.f7, hr.f8, hr.f9, (fun _ => rfl), hr.f11, hr.f12, hr.f13, hr.f14, hr.f15, hr.f16, hr.f17, hr.f18⟩⟩ (if_pos rfl) (fun j hj => if_neg hj)
    · revert hK
      obtain rfl := Option.some.inj ho
      have g10 : ℓ 10 = true := hdep { on := 10, ground := Ground.data } (by simp) rfl
      clear hdep ho
      have hgb := hr.gb
      obtain rfl := hr.f10 g10
      intro hK
      rw [if_pos (by rfl)]
      try simp only [Act.put, List.setIfInBounds_toArray, List.set_cons_zero, List.set_cons_succ]
      have cc := (hgb.cell (World.block_lt_of_cell? _ _ e5)).trans e5
      go_simp
      exact hK.out _ _ (fun j => if j = 11 then true else ℓ j) ⟨V, Q, x23, x24, x25, x26, x27, x28, x29, x30, x31, x32, (.pointer (some ⟨g, off + 5, none⟩)), (.string y5), x35, x36, x22, x37, x38, x5, x6, (by simp only [Act.put, List.setIfInBounds_toArray, List.set_cons_zero, List.set_cons_succ]), ⟨hr.gb, hr.gp, hr.c14, hr.c15, hr.c16, hr.c17, hr.c18, hr.f0, hr.f1, hr.f2, hr.f3, hr.f4, hr.f5, hr.f6, hr.f7, hr.f8, hr.f9, hr.f10, (fun _ => rfl), hr.f12, hr.f13, hr.f14, hr.f15, hr.f16, hr.f17, hr.f18⟩⟩ (if_pos rfl) (fun j hj => if_neg hj)
    · revert hK
      obtain rfl := Option.some.inj ho
      have g2 : ℓ 2 = true := hdep { on := 2, ground := Ground.data } (by simp) rfl
      have g5 : ℓ 5 = true := hdep { on := 5, ground := Ground.data } (by simp) rfl
      have g8 : ℓ 8 = true := hdep { on := 8, ground := Ground.data } (by simp) rfl
      have g11 : ℓ 11 = true := hdep { on := 11, ground := Ground.data } (by simp) rfl
      clear hdep ho
      have hgb := hr.gb
      obtain rfl := hr.f2 g2
      obtain rfl := hr.f5 g5
      obtain rfl := hr.f8 g8
      obtain rfl := hr.f11 g11
      intro hK
      rw [if_pos (by rfl)]
      try simp only [Act.put, List.setIfInBounds_toArray, List.set_cons_zero, List.set_cons_succ]
      have hr9 := hr.below (w9 := w'.alloc (.cells (#[.string y0, .string y1, .string y4, .string y5]) 9)) ((Below.refl _ _).alloc (Nat.le_refl _) _)
      go_simp
      exact hK.out _ _ (fun j => if j = 12 then true else ℓ j) ⟨V, Q, x23, x24, (.string y0), x26, x27, (.string y1), x29, x30, (.string y4), x32, x33, (.string y5), (.slice (some ⟨w'.heap.size, 0, none⟩) 4 4), x36, x22, x37, x38, x5, x6, (by simp only [Act.put, List.setIfInBounds_toArray, List.set_cons_zero, List.set_cons_succ]), ⟨hr9.gb, hr9.gp, hr9.c14, hr9.c15, hr9.c16, hr9.c17, hr9.c18, hr9.f0, hr9.f1, hr9.f2, hr9.f3, hr9.f4, hr9.f5, hr9.f6, hr9.f7, hr9.f8, hr9.f9, hr9.f10, hr9.f11, (fun _ => ⟨w'.heap.size, rfl, hgb.size, new_row w' _ _ _ rfl⟩), hr9.f13, hr9.f14, hr9.f15, hr9.f16, hr9.f17, hr9.f18⟩⟩ (if_pos rfl) (fun j hj => if_neg hj)
    · revert hK
      obtain rfl := Option.some.inj ho
      have g12 : ℓ 12 = true := hdep { on := 12, ground := Ground.data } (by simp) rfl
      clear hdep ho
      have hgb := hr.gb
      obtain ⟨N, rfl, hN, hrow⟩ := hr.f12 g12
      intro hK
      rw [if_pos (by rfl)]
      try simp only [Act.put, List.setIfInBounds_toArray, List.set_cons_zero, List.set_cons_succ]
      have z14 : ℓ 14 = false := by
        cases h7 : ℓ 14
        · rfl
        · have := hr.c14 h7; rw [this] at hL; cases hL
      have z15 : ℓ 15 = false := by
        cases h7 : ℓ 15
        · rfl
        · have := hr.c15 h7; rw [this] at hL; cases hL
      have z16 : ℓ 16 = false := by
        cases h7 : ℓ 16
        · rfl
        · have := hr.c16 h7; rw [this] at hL; cases hL
      have z17 : ℓ 17 = false := by
        cases h7 : ℓ 17
        · rfl
        · have := hr.c17 h7; rw [this] at hL; cases hL
      have z18 : ℓ 18 = false := by
        cases h7 : ℓ 18
        · rfl
        · have := hr.c18 h7; rw [this] at hL; cases hL
      go_simp
      go_at_call 23
      refine Calls.mono (KN.out _ _ hrow) ?_
      rintro e w9 ⟨V9, Q9, rfl, hb9, hgp9⟩
      have hr9 := hr.below hb9
      exact hK.out _ _ (fun j => if j = 13 then true else ℓ j) ⟨V9, Q9, x23, x24, x25, x26, x27, x28, x29, x30, x31, x32, x33, x34, (.slice (some ⟨N, 0, none⟩) 4 4), (.tuple #[V9, .bool Q9]), x22, x37, x38, x5, x6, (by simp only [Act.put, List.setIfInBounds_toArray, List.set_cons_zero, List.set_cons_succ]), ⟨hr9.gb, (fun _ => hgp9), (fun g => by have g2 : ℓ 14 = true := g; rw [z14] at g2; cases g2), (fun g => by have g2 : ℓ 15 = true := g; rw [z15] at g2; cases g2), (fun g => by have g2 : ℓ 16 = true := g; rw [z16] at g2; cases g2), (fun g => by have g2 : ℓ 17 = true := g; rw [z17] at g2; cases g2), (fun g => by have g2 : ℓ 18 = true := g; rw [z18] at g2; cases g2), hr9.f0, hr9.f1, hr9.f2, hr9.f3, hr9.f4, hr9.f5, hr9.f6, hr9.f7, hr9.f8, hr9.f9, hr9.f10, hr9.f11, hr9.f12, (fun _ => rfl), (fun g => by have g2 : ℓ 14 = true := g; rw [z14] at g2; cases g2), (fun g => by have g2 : ℓ 15 = true := g; rw [z15] at g2; cases g2), (fun g => by have g2 : ℓ 16 = true := g; rw [z16] at g2; cases g2), (fun g => by have g2 : ℓ 17 = true := g; rw [z17] at g2; cases g2), (fun g => by have g2 : ℓ 18 = true := g; rw [z18] at g2; cases g2)⟩⟩ (if_pos rfl) (fun j hj => if_neg hj)
    · revert hK
      obtain rfl := Option.some.inj ho
      have g13 : ℓ 13 = true := hdep { on := 13, ground := Ground.data } (by simp) rfl
      clear hdep ho
      have hgb := hr.gb
      obtain rfl := hr.f13 g13
      intro hK
      rw [if_pos (by rfl)]
      try simp only [Act.put, List.setIfInBounds_toArray, List.set_cons_zero, List.set_cons_succ]
      go_simp
      exact hK.out _ _ (fun j => if j = 14 then true else ℓ j) ⟨V, Q, x23, x24, x25, x26, x27, x28, x29, x30, x31, x32, x33, x34, x35, (.tuple #[V, .bool Q]), (.tuple #[V, .bool Q]), x37, x38, x5, x6, (by simp only [Act.put, List.setIfInBounds_toArray, List.set_cons_zero, List.set_cons_succ]), ⟨hr.gb, hr.gp, (fun _ => g13), hr.c15, hr.c16, hr.c17, hr.c18, hr.f0, hr.f1, hr.f2, hr.f3, hr.f4, hr.f5, hr.f6, hr.f7, hr.f8, hr.f9, hr.f10, hr.f11, hr.f12, hr.f13, (fun _ => rfl), hr.f15, hr.f16, hr.f17, hr.f18⟩⟩ (if_pos rfl) (fun j hj => if_neg hj)
    · revert hK
      obtain rfl := Option.some.inj ho
      have g14 : ℓ 14 = true := hdep { on := 14, ground := Ground.data } (by simp) rfl
      clear hdep ho
      have hgb := hr.gb
      obtain rfl := hr.f14 g14
      intro hK
      rw [if_pos (by rfl)]
      try simp only [Act.put, List.setIfInBounds_toArray, List.set_cons_zero, List.set_cons_succ]
      go_simp
      exact hK.out _ _ (fun j => if j = 15 then true else ℓ j) ⟨V, Q, x23, x24, x25, x26, x27, x28, x29, x30, x31, x32, x33, x34, x35, x36, (.tuple #[V, .bool Q]), (V), x38, x5, x6, (by simp only [Act.put, List.setIfInBounds_toArray, List.set_cons_zero, List.set_cons_succ]), ⟨hr.gb, hr.gp, hr.c14, (fun _ => hr.c14 g14), hr.c16, hr.c17, hr.c18, hr.f0, hr.f1, hr.f2, hr.f3, hr.f4, hr.f5, hr.f6, hr.f7, hr.f8, hr.f9, hr.f10, hr.f11, hr.f12, hr.f13, hr.f14, (fun _ => rfl), hr.f16, hr.f17, hr.f18⟩⟩ (if_pos rfl) (fun j hj => if_neg hj)
    · revert hK
      obtain rfl := Option.some.inj ho
      have g14 : ℓ 14 = true := hdep { on := 14, ground := Ground.data } (by simp) rfl
      clear hdep ho
      have hgb := hr.gb
      obtain rfl := hr.f14 g14
      intro hK
      rw [if_pos (by rfl)]
      try simp only [Act.put, List.setIfInBounds_toArray, List.set_cons_zero, List.set_cons_succ]
      go_simp
      exact hK.out _ _ (fun j => if j = 16 then true else ℓ j) ⟨V, Q, x23, x24, x25, x26, x27, x28, x29, x30, x31, x32, x33, x34, x35, x36, (.tuple #[V, .bool Q]), x37, (.bool Q), x5, x6, (by simp only [Act.put, List.setIfInBounds_toArray, List.set_cons_zero, List.set_cons_succ]), ⟨hr.gb, hr.gp, hr.c14, hr.c15, (fun _ => hr.c14 g14), hr.c17, hr.c18, hr.f0, hr.f1, hr.f2, hr.f3, hr.f4, hr.f5, hr.f6, hr.f7, hr.f8, hr.f9, hr.f10, hr.f11, hr.f12, hr.f13, hr.f14, hr.f15, (fun _ => rfl), hr.f17, hr.f18⟩⟩ (if_pos rfl) (fun j hj => if_neg hj)
    · revert hK
      obtain rfl := Option.some.inj ho
      have g15 : ℓ 15 = true := hdep { on := 15, ground := Ground.data } (by simp) rfl
      clear hdep ho
      have hgb := hr.gb
      obtain rfl := (hr.f15 g15).symm
      intro hK
      rw [if_pos (by rfl)]
      try simp only [Act.put, List.setIfInBounds_toArray, List.set_cons_zero, List.set_cons_succ]
      go_simp
      exact hK.out _ _ (fun j => if j = 17 then true else ℓ j) ⟨V, Q, x23, x24, x25, x26, x27, x28, x29, x30, x31, x32, x33, x34, x35, x36, x22, (V), x38, (V), x6, (by simp only [Act.put, List.setIfInBounds_toArray, List.set_cons_zero, List.set_cons_succ]), ⟨hr.gb, hr.gp, hr.c14, hr.c15, hr.c16, (fun _ => hr.c15 g15), hr.c18, hr.f0, hr.f1, hr.f2, hr.f3, hr.f4, hr.f5, hr.f6, hr.f7, hr.f8, hr.f9, hr.f10, hr.f11, hr.f12, hr.f13, hr.f14, hr.f15, hr.f16, (fun _ => rfl), hr.f18⟩⟩ (if_pos rfl) (fun j hj => if_neg hj)
    · revert hK
      obtain rfl := Option.some.inj ho
      have g16 : ℓ 16 = true := hdep { on := 16, ground := Ground.data } (by simp) rfl
      clear hdep ho
      have hgb := hr.gb
      obtain rfl := hr.f16 g16
      intro hK
      rw [if_pos (by rfl)]
      try simp only [Act.put, List.setIfInBounds_toArray, List.set_cons_zero, List.set_cons_succ]
      go_simp
      exact hK.out _ _ (fun j => if j = 18 then true else ℓ j) ⟨V, Q, x23, x24, x25, x26, x27, x28, x29, x30, x31, x32, x33, x34, x35, x36, x22, x37, (.bool Q), x5, (.bool Q), (by simp only [Act.put, List.setIfInBounds_toArray, List.set_cons_zero, List.set_cons_succ]), ⟨hr.gb, hr.gp, hr.c14, hr.c15, hr.c16, hr.c17, (fun _ => hr.c16 g16), hr.f0, hr.f1, hr.f2, hr.f3, hr.f4, hr.f5, hr.f6, hr.f7, hr.f8, hr.f9, hr.f10, hr.f11, hr.f12, hr.f13, hr.f14, hr.f15, hr.f16, hr.f17, (fun _ => rfl)⟩⟩ (if_pos rfl) (fun j hj => if_neg hj)
  · rintro a' w' ℓ ℓ' hℓ hI
    rw [← show ℓ = ℓ' from funext hℓ]
    exact hI
structure EsRo (W0 : World) (g : Nat) (off : Nat) (cap : Nat) (y0 : ByteArray) (y1 : ByteArray) (y4 : ByteArray) (y5 : ByteArray) (n0 : Int) (n1 : Int) (n4 : Int) (n5 : Int) (V : Value) (Q : Bool) (w' : World) (b0 b1 b2 b3 b4 b5 b6 b7 b8 b9 b10 b11 b12 b13 b14 b15 b16 b17 b18 : Bool) (x23 x24 x25 x26 x27 x28 x29 x30 x31 x32 x33 x34 x35 x36 x22 x37 x38 x5 x6 : Value) : Prop where
  gb : Below W0.heap.size W0 w'
  gp : b13 = true → NV w' V Q true n0 n1 n4 n5
  c14 : b14 = true → b13 = true
  c15 : b15 = true → b13 = true
  c16 : b16 = true → b13 = true
  c17 : b17 = true → b13 = true
  c18 : b18 = true → b13 = true
  f0 : b0 = true → x23 = .slice (some ⟨g, off, none⟩) 7 cap
  f1 : b1 = true → x24 = .pointer (some ⟨g, off, none⟩)
  f2 : b2 = true → x25 = .string y0
  f3 : b3 = true → x26 = .slice (some ⟨g, off, none⟩) 7 cap
  f4 : b4 = true → x27 = .pointer (some ⟨g, off + 1, none⟩)
  f5 : b5 = true → x28 = .string y1
  f6 : b6 = true → x29 = .slice (some ⟨g, off, none⟩) 7 cap
  f7 : b7 = true → x30 = .pointer (some ⟨g, off + 4, none⟩)
  f8 : b8 = true → x31 = .string y4
  f9 : b9 = true → x32 = .slice (some ⟨g, off, none⟩) 7 cap
  f10 : b10 = true → x33 = .pointer (some ⟨g, off + 5, none⟩)
  f11 : b11 = true → x34 = .string y5
  f12 : b12 = true → ∃ N, x35 = .slice (some ⟨N, 0, none⟩) 4 4 ∧ W0.heap.size ≤ N ∧ w'.heap[N]? = some (.cells #[.string y0, .string y1, .string y4, .string y5] 9 (0, 0))
  f13 : b13 = true → x36 = .tuple #[V, .bool Q]
  f14 : b14 = true → x22 = .tuple #[V, .bool Q]
  f15 : b15 = true → x37 = V
  f16 : b16 = true → x38 = .bool Q
  f17 : b17 = true → x5 = V
  f18 : b18 = true → x6 = .bool Q
theorem EsRo.below {W0 : World} {g : Nat} {off : Nat} {cap : Nat} {y0 : ByteArray} {y1 : ByteArray} {y4 : ByteArray} {y5 : ByteArray} {n0 : Int} {n1 : Int} {n4 : Int} {n5 : Int} {V : Value} {Q : Bool} {w' w9 : World} {b0 b1 b2 b3 b4 b5 b6 b7 b8 b9 b10 b11 b12 b13 b14 b15 b16 b17 b18 : Bool} {x23 x24 x25 x26 x27 x28 x29 x30 x31 x32 x33 x34 x35 x36 x22 x37 x38 x5 x6 : Value} (h : EsRo W0 g off cap y0 y1 y4 y5 n0 n1 n4 n5 V Q w' b0 b1 b2 b3 b4 b5 b6 b7 b8 b9 b10 b11 b12 b13 b14 b15 b16 b17 b18 x23 x24 x25 x26 x27 x28 x29 x30 x31 x32 x33 x34 x35 x36 x22 x37 x38 x5 x6) (hb : Below w'.heap.size w' w9) : EsRo W0 g off cap y0 y1 y4 y5 n0 n1 n4 n5 V Q w9 b0 b1 b2 b3 b4 b5 b6 b7 b8 b9 b10 b11 b12 b13 b14 b15 b16 b17 b18 x23 x24 x25 x26 x27 x28 x29 x30 x31 x32 x33 x34 x35 x36 x22 x37 x38 x5 x6 :=
  ⟨h.gb.trans (hb.mono h.gb.size), fun g => (h.gp g).below hb, h.c14, h.c15, h.c16, h.c17, h.c18, h.f0, h.f1, h.f2, h.f3, h.f4, h.f5, h.f6, h.f7, h.f8, h.f9, h.f10, h.f11, fun g => (h.f12 g).imp fun N k => ⟨k.1, k.2.1, row_below k.2.2 hb⟩, h.f13, h.f14, h.f15, h.f16, h.f17, h.f18⟩
set_option maxRecDepth 40000 in
set_option maxHeartbeats 8000000 in
theorem spec_evof_o (s : ByteArray) (hl : s.size ≤ 100) (y0 y1 y2 y3 y4 y5 y6 : ByteArray) (n0 n1 h2 z n4 n5 h6 : Int) (q b2 b6 : Bool)
    (hq : q = true) (h2t : b2 = true) (h6t : b6 = true) (hz : z < 0) (hd : ¬ y3 = Ex.dash)
    (HSP : Hid (∀ X, Calls Tryd.prog 22 #[.string s] X fun e w' => ∃ g off cap, e = .returned (.slice (some ⟨g, off, none⟩) 7 cap) ∧ Below X.heap.size X w' ∧ w'.cell? ⟨g, off, none⟩ = some (.string y0) ∧ w'.cell? ⟨g, off + 1, none⟩ = some (.string y1) ∧ w'.cell? ⟨g, off + 2, none⟩ = some (.string y2) ∧ w'.cell? ⟨g, off + 3, none⟩ = some (.string y3) ∧ w'.cell? ⟨g, off + 4, none⟩ = some (.string y4) ∧ w'.cell? ⟨g, off + 5, none⟩ = some (.string y5) ∧ w'.cell? ⟨g, off + 6, none⟩ = some (.string y6)))
    (KN : Hid (∀ (X : World) (N : Nat), X.heap[N]? = some (.cells #[.string y0, .string y1, .string y4, .string y5] 9 (0, 0)) → Calls Tryd.prog 23 #[.slice (some ⟨N, 0, none⟩) 4 4] X fun e w' => ∃ V Q, e = .returned (.tuple #[V, .bool Q]) ∧ Below X.heap.size X w' ∧ NV w' V Q q n0 n1 n4 n5))
    (K2 : Hid (∀ X, Calls Tryd.prog 24 #[.string y2] X fun e w' => e = .returned (.tuple #[.int .u32 h2, .bool b2]) ∧ w' = X))
    (K6 : Hid (∀ X, Calls Tryd.prog 24 #[.string y6] X fun e w' => e = .returned (.tuple #[.int .u32 h6, .bool b6]) ∧ w' = X))
    (KO : Hid (∀ X, Calls Tryd.prog 25 #[.string y3] X fun e w' => e = .returned (.int .i64 z) ∧ Below X.heap.size X w')) (w : World) :
    Calls Tryd.prog 9 #[.string s] w fun e w' => e = .returned (.tuple #[.agg #[.int .i64 0, .int .i64 0, .int .u32 0, .int .i64 0, .int .i64 0, .int .i64 0, .int .u32 0], .bool false]) ∧ Below w.heap.size w w' := by
  have HR : Hid ((w.alloc (.cells #[.int .i64 0, .int .i64 0, .int .u32 0, .int .i64 0, .int .i64 0, .int .i64 0, .int .u32 0] 26)).heap[w.heap.size]? = some (.cells #[.int .i64 0, .int .i64 0, .int .u32 0, .int .i64 0, .int .i64 0, .int .i64 0, .int .u32 0] 26 (0, 0))) := new_row w _ _ _ rfl
  have HB : Hid (Below w.heap.size w (w.alloc (.cells #[.int .i64 0, .int .i64 0, .int .u32 0, .int .i64 0, .int .i64 0, .int .i64 0, .int .u32 0] 26))) := (Below.refl _ _).alloc (Nat.le_refl _) _
  subst hq
  subst h2t
  subst h6t
  have hz1 : decide (z < 0) = true := decide_eq_true hz
  have hd1 := dash_no hd
  have HZ : Hid (z < 0) := hz
  clear hz hd
  have hl1 : decide ((100 : Int) < (s.size : Int)) = false := decide_eq_false (by omega)
  have HL : Hid (s.size ≤ 100) := hl
  clear hl
  go_enter Tryd.func9, Tryd.ntmps9
  go_wp2_with fail
  refine Calls.mono (HSP.out _) ?_
  rintro e W1 ⟨g, off, cap, rfl, hb1, e0, e1, e2, e3, e4, e5, e6⟩
  have HB1 : Hid (Below w.heap.size w W1) := HB.out.trans (hb1.mono HB.out.size)
  have HR1 : Hid (W1.heap[w.heap.size]? = some (.cells #[.int .i64 0, .int .i64 0, .int .u32 0, .int .i64 0, .int .i64 0, .int .i64 0, .int .u32 0] 26 (0, 0))) := row_below HR.out hb1
  clear hb1 HB HR HSP hl1
  go_wp2
  refine wp_region_inv (by kernel_rfl) (by kernel_rfl) (fun A ℓ a' w' => ∃ (V : Value) (Q : Bool) (x23 x24 x25 x26 x27 x28 x29 x30 x31 x32 x33 x34 x35 x36 x22 x37 x38 x5 x6 : Value), a' = (((((((((((((((((((A.put (some 23) x23).put (some 24) x24).put (some 25) x25).put (some 26) x26).put (some 27) x27).put (some 28) x28).put (some 29) x29).put (some 30) x30).put (some 31) x31).put (some 32) x32).put (some 33) x33).put (some 34) x34).put (some 35) x35).put (some 36) x36).put (some 22) x22).put (some 37) x37).put (some 38) x38).put (some 5) x5).put (some 6) x6) ∧ EsRo (W1) (g) (off) (cap) (y0) (y1) (y4) (y5) (n0) (n1) (n4) (n5) V Q w' (ℓ 0) (ℓ 1) (ℓ 2) (ℓ 3) (ℓ 4) (ℓ 5) (ℓ 6) (ℓ 7) (ℓ 8) (ℓ 9) (ℓ 10) (ℓ 11) (ℓ 12) (ℓ 13) (ℓ 14) (ℓ 15) (ℓ 16) (ℓ 17) (ℓ 18) x23 x24 x25 x26 x27 x28 x29 x30 x31 x32 x33 x34 x35 x36 x22 x37 x38 x5 x6) ?_ ?_ ?_ ?_
  · exact ⟨undef, false, undef, undef, undef, undef, undef, undef, undef, undef, undef, undef, undef, undef, undef, undef, undef, undef, undef, undef, undef, (by simp only [Act.put, List.setIfInBounds_toArray, List.set_cons_zero, List.set_cons_succ]), ⟨(Below.refl _ _).drew, (fun g => by cases g), (fun g => by cases g), (fun g => by cases g), (fun g => by cases g), (fun g => by cases g), (fun g => by cases g), (fun g => by cases g), (fun g => by cases g), (fun g => by cases g), (fun g => by cases g), (fun g => by cases g), (fun g => by cases g), (fun g => by cases g), (fun g => by cases g), (fun g => by cases g), (fun g => by cases g), (fun g => by cases g), (fun g => by cases g), (fun g => by cases g), (fun g => by cases g), (fun g => by cases g), (fun g => by cases g), (fun g => by cases g), (fun g => by cases g), (fun g => by cases g)⟩⟩
  · intro ℓ a' w' hI hall
    obtain ⟨V, Q, x23, x24, x25, x26, x27, x28, x29, x30, x31, x32, x33, x34, x35, x36, x22, x37, x38, x5, x6, rfl, hr⟩ := hI
    have hall' : ∀ i, i < 19 → ℓ i = true := hall
    obtain rfl := hr.f0 (hall' 0 (by decide))
    obtain rfl := hr.f1 (hall' 1 (by decide))
    obtain rfl := hr.f2 (hall' 2 (by decide))
    obtain rfl := hr.f3 (hall' 3 (by decide))
    obtain rfl := hr.f4 (hall' 4 (by decide))
    obtain rfl := hr.f5 (hall' 5 (by decide))
    obtain rfl := hr.f6 (hall' 6 (by decide))
    obtain rfl := hr.f7 (hall' 7 (by decide))
    obtain rfl := hr.f8 (hall' 8 (by decide))
    obtain rfl := hr.f9 (hall' 9 (by decide))
    obtain rfl := hr.f10 (hall' 10 (by decide))
    obtain rfl := hr.f11 (hall' 11 (by decide))
    obtain ⟨N12, rfl, hN12, hrow12⟩ := hr.f12 (hall' 12 (by decide))
    obtain rfl := hr.f13 (hall' 13 (by decide))
    obtain rfl := hr.f14 (hall' 14 (by decide))
    obtain rfl := (hr.f15 (hall' 15 (by decide))).symm
    obtain rfl := hr.f16 (hall' 16 (by decide))
    obtain rfl := (hr.f17 (hall' 17 (by decide))).symm
    obtain rfl := hr.f18 (hall' 18 (by decide))
    have hgp := hr.gp (hall' 13 (by decide))
    have hgb := hr.gb
    clear hall hall' hr
    simp only [Act.put, List.setIfInBounds_toArray, List.set_cons_zero, List.set_cons_succ]
    have hgq := hgp.1
    subst hgq
    have HP : Hid (NV w' V true true n0 n1 n4 n5) := hgp
    have HB2 : Hid (Below w.heap.size w w') := HB1.out.trans (hgb.mono HB1.out.size)
    have HR2 : Hid (w'.heap[w.heap.size]? = some (.cells #[.int .i64 0, .int .i64 0, .int .u32 0, .int .i64 0, .int .i64 0, .int .i64 0, .int .u32 0] 26 (0, 0))) := row_below HR1.out hgb
    replace e2 := (hgb.cell (World.block_lt_of_cell? _ _ e2)).trans e2
    replace e3 := (hgb.cell (World.block_lt_of_cell? _ _ e3)).trans e3
    replace e6 := (hgb.cell (World.block_lt_of_cell? _ _ e6)).trans e6
    clear hgb hgp e0 e1 e4 e5 HB1 HR1 KN hrow12 hN12
    go_wp2_with fail
    refine Calls.mono (K2.out _) ?_
    rintro e W2 ⟨rfl, rfl⟩
    go_wp2_with fail
    refine Calls.mono (K6.out _) ?_
    rintro e W2 ⟨rfl, rfl⟩
    go_wp2_with fail
    refine Calls.mono (KO.out _) ?_
    rintro e W3 ⟨rfl, hb3⟩
    have HB3 : Hid (Below w.heap.size w W3) := HB2.out.trans (hb3.mono HB2.out.size)
    have HR3 : Hid (W3.heap[w.heap.size]? = some (.cells #[.int .i64 0, .int .i64 0, .int .u32 0, .int .i64 0, .int .i64 0, .int .i64 0, .int .u32 0] 26 (0, 0))) := row_below HR2.out hb3
    replace e3 := (hb3.cell (World.block_lt_of_cell? _ _ e3)).trans e3
    have HP3 : Hid (NV W3 V true true n0 n1 n4 n5) := HP.out.below hb3
    clear hb3 e2 e6 HB2 HR2 HP K2 K6 KO
    have HRF : Hid ((W3.setRow w.heap.size #[.int .i64 0, .int .i64 0, .int .u32 0, .int .i64 0, .int .i64 0, .int .i64 0, .int .u32 0]).heap[w.heap.size]? = some (.cells #[.int .i64 0, .int .i64 0, .int .u32 0, .int .i64 0, .int .i64 0, .int .i64 0, .int .u32 0] 26 (0, 0))) := setRow_heap _ _ _ _ _ _ HR3.out
    have m0 := row_c HRF.out 0 _ rfl
    have m1 := row_c HRF.out 1 _ rfl
    have m2 := row_c HRF.out 2 _ rfl
    have m3 := row_c HRF.out 3 _ rfl
    have m4 := row_c HRF.out 4 _ rfl
    have m5 := row_c HRF.out 5 _ rfl
    have m6 := row_c HRF.out 6 _ rfl
    have HBF : Hid (Below w.heap.size w (W3.setRow w.heap.size #[.int .i64 0, .int .i64 0, .int .u32 0, .int .i64 0, .int .i64 0, .int .i64 0, .int .u32 0])) := below_setRow HB3.out (Nat.le_refl _) _
    go_wp2_with (first | (refine wpList_store_row rfl 26 (.tmp 2) (.tmp 77) rfl w.heap.size #[.int .i64 0, .int .i64 0, .int .u32 0, .int .i64 0, .int .i64 0, .int .i64 0, .int .u32 0] rfl rfl 26 #[.int .i64 0, .int .i64 0, .int .u32 0, .int .i64 0, .int .i64 0, .int .i64 0, .int .u32 0] HR3.out (by kernel_rfl) rfl (by simp [Value.oneCell']) ?_) | fail)
    exact bodyPost_ret (v := .tuple #[.agg #[.int .i64 0, .int .i64 0, .int .u32 0, .int .i64 0, .int .i64 0, .int .i64 0, .int .u32 0], .bool false]) (by simp [results, Tryd.results9, go_sem, m0, m1, m2, m3, m4, m5, m6]) rfl ⟨rfl, HBF.out⟩
  · intro ℓ a' w' i o hI ho hi hL hdep K hK
    obtain ⟨V, Q, x23, x24, x25, x26, x27, x28, x29, x30, x31, x32, x33, x34, x35, x36, x22, x37, x38, x5, x6, rfl, hr⟩ := hI
    have hi7 : i < 19 := hi
    have hcs : i = 0 ∨ i = 1 ∨ i = 2 ∨ i = 3 ∨ i = 4 ∨ i = 5 ∨ i = 6 ∨ i = 7 ∨ i = 8 ∨ i = 9 ∨ i = 10 ∨ i = 11 ∨ i = 12 ∨ i = 13 ∨ i = 14 ∨ i = 15 ∨ i = 16 ∨ i = 17 ∨ i = 18 := by omega
    clear hi hi7
    rcases hcs with rfl | rfl | rfl | rfl | rfl | rfl | rfl | rfl | rfl | rfl | rfl | rfl | rfl | rfl | rfl | rfl | rfl | rfl | rfl
    · revert hK
      obtain rfl := Option.some.inj ho
      clear hdep ho
      have hgb := hr.gb
      intro hK
      rw [if_pos (by rfl)]
      try simp only [Act.put, List.setIfInBounds_toArray, List.set_cons_zero, List.set_cons_succ]
      go_simp
      exact hK.out _ _ (fun j => if j = 0 then true else ℓ j) ⟨V, Q, (.slice (some ⟨g, off, none⟩) 7 cap), x24, x25, x26, x27, x28, x29, x30, x31, x32, x33, x34, x35, x36, x22, x37, x38, x5, x6, (by simp only [Act.put, List.setIfInBounds_toArray, List.set_cons_zero, List.set_cons_succ]), ⟨hr.gb, hr.gp, hr.c14, hr.c15, hr.c16, hr.c17, hr.c18, (fun _ => rfl), hr.f1, hr.f2, hr.f3, hr.f4, hr.f5, hr.f6, hr.f7, hr.f8, hr.f9, hr.f10, hr.f11, hr.f12, hr.f13, hr.f14, hr.f15, hr.f16, hr.f17, hr.f18⟩⟩ (if_pos rfl) (fun j hj => if_neg hj)
    · revert hK
      obtain rfl := Option.some.inj ho
      have g0 : ℓ 0 = true := hdep { on := 0, ground := Ground.data } (by simp) rfl
      clear hdep ho
      have hgb := hr.gb
      obtain rfl := hr.f0 g0
      intro hK
      rw [if_pos (by rfl)]
      try simp only [Act.put, List.setIfInBounds_toArray, List.set_cons_zero, List.set_cons_succ]
      go_simp
      exact hK.out _ _ (fun j => if j = 1 then true else ℓ j) ⟨V, Q, (.slice (some ⟨g, off, none⟩) 7 cap), (.pointer (some ⟨g, off, none⟩)), x25, x26, x27, x28, x29, x30, x31, x32, x33, x34, x35, x36, x22, x37, x38, x5, x6, (by simp only [Act.put, List.setIfInBounds_toArray, List.set_cons_zero, List.set_cons_succ]), ⟨hr.gb, hr.gp, hr.c14, hr.c15, hr.c16, hr.c17, hr.c18, hr.f0, (fun _ => rfl), hr.f2, hr.f3, hr.f4, hr.f5, hr.f6, hr.f7, hr.f8, hr.f9, hr.f10, hr.f11, hr.f12, hr.f13, hr.f14, hr.f15, hr.f16, hr.f17, hr.f18⟩⟩ (if_pos rfl) (fun j hj => if_neg hj)
    · revert hK
      obtain rfl := Option.some.inj ho
      have g1 : ℓ 1 = true := hdep { on := 1, ground := Ground.data } (by simp) rfl
      clear hdep ho
      have hgb := hr.gb
      obtain rfl := hr.f1 g1
      intro hK
      rw [if_pos (by rfl)]
      try simp only [Act.put, List.setIfInBounds_toArray, List.set_cons_zero, List.set_cons_succ]
      have cc := (hgb.cell (World.block_lt_of_cell? _ _ e0)).trans e0
      go_simp
      exact hK.out _ _ (fun j => if j = 2 then true else ℓ j) ⟨V, Q, x23, (.pointer (some ⟨g, off, none⟩)), (.string y0), x26, x27, x28, x29, x30, x31, x32, x33, x34, x35, x36, x22, x37, x38, x5, x6, (by simp only [Act.put, List.setIfInBounds_toArray, List.set_cons_zero, List.set_cons_succ]), ⟨hr.gb, hr.gp, hr.c14, hr.c15, hr.c16, hr.c17, hr.c18, hr.f0, hr.f1, (fun _ => rfl), hr.f3, hr.f4, hr.f5, hr.f6, hr.f7, hr.f8, hr.f9, hr.f10, hr.f11, hr.f12, hr.f13, hr.f14, hr.f15, hr.f16, hr.f17, hr.f18⟩⟩ (if_pos rfl) (fun j hj => if_neg hj)
    · revert hK
      obtain rfl := Option.some.inj ho
      clear hdep ho
      have hgb := hr.gb
      intro hK
      rw [if_pos (by rfl)]
      try simp only [Act.put, List.setIfInBounds_toArray, List.set_cons_zero, List.set_cons_succ]
      go_simp
      exact hK.out _ _ (fun j => if j = 3 then true else ℓ j) ⟨V, Q, x23, x24, x25, (.slice (some ⟨g, off, none⟩) 7 cap), x27, x28, x29, x30, x31, x32, x33, x34, x35, x36, x22, x37, x38, x5, x6, (by simp only [Act.put, List.setIfInBounds_toArray, List.set_cons_zero, List.set_cons_succ]), ⟨hr.gb, hr.gp, hr.c14, hr.c15, hr.c16, hr.c17, hr.c18, hr.f0, hr.f1, hr.f2, (fun _ => rfl), hr.f4, hr.f5, hr.f6, hr.f7, hr.f8, hr.f9, hr.f10, hr.f11, hr.f12, hr.f13, hr.f14, hr.f15, hr.f16, hr.f17, hr.f18⟩⟩ (if_pos rfl) (fun j hj => if_neg hj)
    · revert hK
      obtain rfl := Option.some.inj ho
      have g3 : ℓ 3 = true := hdep { on := 3, ground := Ground.data } (by simp) rfl
      clear hdep ho
      have hgb := hr.gb
      obtain rfl := hr.f3 g3
      intro hK
      rw [if_pos (by rfl)]
      try simp only [Act.put, List.setIfInBounds_toArray, List.set_cons_zero, List.set_cons_succ]
      go_simp
      exact hK.out _ _ (fun j => if j = 4 then true else ℓ j) ⟨V, Q, x23, x24, x25, (.slice (some ⟨g, off, none⟩) 7 cap), (.pointer (some ⟨g, off + 1, none⟩)), x28, x29, x30, x31, x32, x33, x34, x35, x36, x22, x37, x38, x5, x6, (by simp only [Act.put, List.setIfInBounds_toArray, List.set_cons_zero, List.set_cons_succ]), ⟨hr.gb, hr.gp, hr.c14, hr.c15, hr.c16, hr.c17, hr.c18, hr.f0, hr.f1, hr.f2, hr.f3, (fun _ => rfl), hr.f5, hr.f6, hr.f7, hr.f8, hr.f9, hr.f10, hr.f11, hr.f12, hr.f13, hr.f14, hr.f15, hr.f16, hr.f17, hr.f18⟩⟩ (if_pos rfl) (fun j hj => if_neg hj)
    · revert hK
      obtain rfl := Option.some.inj ho
      have g4 : ℓ 4 = true := hdep { on := 4, ground := Ground.data } (by simp) rfl
      clear hdep ho
      have hgb := hr.gb
      obtain rfl := hr.f4 g4
      intro hK
      rw [if_pos (by rfl)]
      try simp only [Act.put, List.setIfInBounds_toArray, List.set_cons_zero, List.set_cons_succ]
      have cc := (hgb.cell (World.block_lt_of_cell? _ _ e1)).trans e1
      go_simp
      exact hK.out _ _ (fun j => if j = 5 then true else ℓ j) ⟨V, Q, x23, x24, x25, x26, (.pointer (some ⟨g, off + 1, none⟩)), (.string y1), x29, x30, x31, x32, x33, x34, x35, x36, x22, x37, x38, x5, x6, (by simp only [Act.put, List.setIfInBounds_toArray, List.set_cons_zero, List.set_cons_succ]), ⟨hr.gb, hr.gp, hr.c14, hr.c15, hr.c16, hr.c17, hr.c18, hr.f0, hr.f1, hr.f2, hr.f3, hr.f4, (fun _ => rfl), hr.f6, hr.f7, hr.f8, hr.f9, hr.f10, hr.f11, hr.f12, hr.f13, hr.f14, hr.f15, hr.f16, hr.f17, hr.f18⟩⟩ (if_pos rfl) (fun j hj => if_neg hj)
    · revert hK
      obtain rfl := Option.some.inj ho
      clear hdep ho
      have hgb := hr.gb
      intro hK
      rw [if_pos (by rfl)]
      try simp only [Act.put, List.setIfInBounds_toArray, List.set_cons_zero, List.set_cons_succ]
      go_simp
      exact hK.out _ _ (fun j => if j = 6 then true else ℓ j) ⟨V, Q, x23, x24, x25, x26, x27, x28, (.slice (some ⟨g, off, none⟩) 7 cap), x30, x31, x32, x33, x34, x35, x36, x22, x37, x38, x5, x6, (by simp only [Act.put, List.setIfInBounds_toArray, List.set_cons_zero, List.set_cons_succ]), ⟨hr.gb, hr.gp, hr.c14, hr.c15, hr.c16, hr.c17, hr.c18, hr.f0, hr.f1, hr.f2, hr.f3, hr.f4, hr.f5, (fun _ => rfl), hr.f7, hr.f8, hr.f9, hr.f10, hr.f11, hr.f12, hr.f13, hr.f14, hr.f15, hr.f16, hr.f17, hr.f18⟩⟩ (if_pos rfl) (fun j hj => if_neg hj)
    · revert hK
      obtain rfl := Option.some.inj ho
      have g6 : ℓ 6 = true := hdep { on := 6, ground := Ground.data } (by simp) rfl
      clear hdep ho
      have hgb := hr.gb
      obtain rfl := hr.f6 g6
      intro hK
      rw [if_pos (by rfl)]
      try simp only [Act.put, List.setIfInBounds_toArray, List.set_cons_zero, List.set_cons_succ]
      go_simp
      exact hK.out _ _ (fun j => if j = 7 then true else ℓ j) ⟨V, Q, x23, x24, x25, x26, x27, x28, (.slice (some ⟨g, off, none⟩) 7 cap), (.pointer (some ⟨g, off + 4, none⟩)), x31, x32, x33, x34, x35, x36, x22, x37, x38, x5, x6, (by simp only [Act.put, List.setIfInBounds_toArray, List.set_cons_zero, List.set_cons_succ]), ⟨hr.gb, hr.gp, hr.c14, hr.c15, hr.c16, hr.c17, hr.c18, hr.f0, hr.f1, hr.f2, hr.f3, hr.f4, hr.f5, hr.f6, (fun _ => rfl), hr.f8, hr.f9, hr.f10, hr.f11, hr.f12, hr.f13, hr.f14, hr.f15, hr.f16, hr.f17, hr.f18⟩⟩ (if_pos rfl) (fun j hj => if_neg hj)
    · revert hK
      obtain rfl := Option.some.inj ho
      have g7 : ℓ 7 = true := hdep { on := 7, ground := Ground.data } (by simp) rfl
      clear hdep ho
      have hgb := hr.gb
      obtain rfl := hr.f7 g7
      intro hK
      rw [if_pos (by rfl)]
      try simp only [Act.put, List.setIfInBounds_toArray, List.set_cons_zero, List.set_cons_succ]
      have cc := (hgb.cell (World.block_lt_of_cell? _ _ e4)).trans e4
      go_simp
      exact hK.out _ _ (fun j => if j = 8 then true else ℓ j) ⟨V, Q, x23, x24, x25, x26, x27, x28, x29, (.pointer (some ⟨g, off + 4, none⟩)), (.string y4), x32, x33, x34, x35, x36, x22, x37, x38, x5, x6, (by simp only [Act.put, List.setIfInBounds_toArray, List.set_cons_zero, List.set_cons_succ]), ⟨hr.gb, hr.gp, hr.c14, hr.c15, hr.c16, hr.c17, hr.c18, hr.f0, hr.f1, hr.f2, hr.f3, hr.f4, hr.f5, hr.f6, hr.f7, (fun _ => rfl), hr.f9, hr.f10, hr.f11, hr.f12, hr.f13, hr.f14, hr.f15, hr.f16, hr.f17, hr.f18⟩⟩ (if_pos rfl) (fun j hj => if_neg hj)
    · revert hK
      obtain rfl := Option.some.inj ho
      clear hdep ho
      have hgb := hr.gb
      intro hK
      rw [if_pos (by rfl)]
      try simp only [Act.put, List.setIfInBounds_toArray, List.set_cons_zero, List.set_cons_succ]
      go_simp
      exact hK.out _ _ (fun j => if j = 9 then true else ℓ j) ⟨V, Q, x23, x24, x25, x26, x27, x28, x29, x30, x31, (.slice (some ⟨g, off, none⟩) 7 cap), x33, x34, x35, x36, x22, x37, x38, x5, x6, (by simp only [Act.put, List.setIfInBounds_toArray, List.set_cons_zero, List.set_cons_succ]), ⟨hr.gb, hr.gp, hr.c14, hr.c15, hr.c16, hr.c17, hr.c18, hr.f0, hr.f1, hr.f2, hr.f3, hr.f4, hr.f5, hr.f6, hr.f7, hr.f8, (fun _ => rfl), hr.f10, hr.f11, hr.f12, hr.f13, hr.f14, hr.f15, hr.f16, hr.f17, hr.f18⟩⟩ (if_pos rfl) (fun j hj => if_neg hj)
    · revert hK
      obtain rfl := Option.some.inj ho
      have g9 : ℓ 9 = true := hdep { on := 9, ground := Ground.data } (by simp) rfl
      clear hdep ho
      have hgb := hr.gb
      obtain rfl := hr.f9 g9
      intro hK
      rw [if_pos (by rfl)]
      try simp only [Act.put, List.setIfInBounds_toArray, List.set_cons_zero, List.set_cons_succ]
      go_simp
      exact hK.out _ _ (fun j => if j = 10 then true else ℓ j) ⟨V, Q, x23, x24, x25, x26, x27, x28, x29, x30, x31, (.slice (some ⟨g, off, none⟩) 7 cap), (.pointer (some ⟨g, off + 5, none⟩)), x34, x35, x36, x22, x37, x38, x5, x6, (by simp only [Act.put, List.setIfInBounds_toArray, List.set_cons_zero, List.set_cons_succ]), ⟨hr.gb, hr.gp, hr.c14, hr.c15, hr.c16, hr.c17, hr.c18, hr.f0, hr.f1, hr.f2, hr.f3, hr.f4, hr.f5, hr.f6, hr.f7, hr.f8, hr.f9, (fun _ => rfl), hr.f11, hr.f12, hr.f13, hr.f14, hr.f15, hr.f16, hr.f17, hr.f18⟩⟩ (if_pos rfl) (fun j hj => if_neg hj)
    · revert hK
      obtain rfl := Option.some.inj ho
      have g10 : ℓ 10 = true := hdep { on := 10, ground := Ground.data } (by simp) rfl
      clear hdep ho
      have hgb := hr.gb
      obtain rfl := hr.f10 g10
      intro hK
      rw [if_pos (by rfl)]
      try simp only [Act.put, List.setIfInBounds_toArray, List.set_cons_zero, List.set_cons_succ]
      have cc := (hgb.cell (World.block_lt_of_cell? _ _ e5)).trans e5
      go_simp
      exact hK.out _ _ (fun j => if j = 11 then true else ℓ j) ⟨V, Q, x23, x24, x25, x26, x27, x28, x29, x30, x31, x32, (.pointer (some ⟨g, off + 5, none⟩)), (.string y5), x35, x36, x22, x37, x38, x5, x6, (by simp only [Act.put, List.setIfInBounds_toArray, List.set_cons_zero, List.set_cons_succ]), ⟨hr.gb, hr.gp, hr.c14, hr.c15, hr.c16, hr.c17, hr.c18, hr.f0, hr.f1, hr.f2, hr.f3, hr.f4, hr.f5, hr.f6, hr.f7, hr.f8, hr.f9, hr.f10, (fun _ => rfl), hr.f12, hr.f13, hr.f14, hr.f15, hr.f16, hr.f17, hr.f18⟩⟩ (if_pos rfl) (fun j hj => if_neg hj)
    · revert hK
      obtain rfl := Option.some.inj ho
      have g2 : ℓ 2 = true := hdep { on := 2, ground := Ground.data } (by simp) rfl
      have g5 : ℓ 5 = true := hdep { on := 5, ground := Ground.data } (by simp) rfl
      have g8 : ℓ 8 = true := hdep { on := 8, ground := Ground.data } (by simp) rfl
      have g11 : ℓ 11 = true := hdep { on := 11, ground := Ground.data } (by simp) rfl
      clear hdep ho
      have hgb := hr.gb
      obtain rfl := hr.f2 g2
      obtain rfl := hr.f5 g5
      obtain rfl := hr.f8 g8
      obtain rfl := hr.f11 g11
      intro hK
      rw [if_pos (by rfl)]
      try simp only [Act.put, List.setIfInBounds_toArray, List.set_cons_zero, List.set_cons_succ]
      have hr9 := hr.below (w9 := w'.alloc (.cells (#[.string y0, .string y1, .string y4, .string y5]) 9)) ((Below.refl _ _).alloc (Nat.le_refl _) _)
      go_simp
      exact hK.out _ _ (fun j => if j = 12 then true else ℓ j) ⟨V, Q, x23, x24, (.string y0), x26, x27, (.string y1), x29, x30, (.string y4), x32, x33, (.string y5), (.slice (some ⟨w'.heap.size, 0, none⟩) 4 4), x36, x22, x37, x38, x5, x6, (by simp only [Act.put, List.setIfInBounds_toArray, List.set_cons_zero, List.set_cons_succ]), ⟨hr9.gb, hr9.gp, hr9.c14, hr9.c15, hr9.c16, hr9.c17, hr9.c18, hr9.f0, hr9.f1, hr9.f2, hr9.f3, hr9.f4, hr9.f5, hr9.f6, hr9.f7, hr9.f8, hr9.f9, hr9.f10, hr9.f11, (fun _ => ⟨w'.heap.size, rfl, hgb.size, new_row w' _ _ _ rfl⟩), hr9.f13, hr9.f14, hr9.f15, hr9.f16, hr9.f17, hr9.f18⟩⟩ (if_pos rfl) (fun j hj => if_neg hj)
    · revert hK
      obtain rfl := Option.some.inj ho
      have g12 : ℓ 12 = true := hdep { on := 12, ground := Ground.data } (by simp) rfl
      clear hdep ho
      have hgb := hr.gb
      obtain ⟨N, rfl, hN, hrow⟩ := hr.f12 g12
      intro hK
      rw [if_pos (by rfl)]
      try simp only [Act.put, List.setIfInBounds_toArray, List.set_cons_zero, List.set_cons_succ]
      have z14 : ℓ 14 = false := by
        cases h7 : ℓ 14
        · rfl
        · have := hr.c14 h7; rw [this] at hL; cases hL
      have z15 : ℓ 15 = false := by
        cases h7 : ℓ 15
        · rfl
        · have := hr.c15 h7; rw [this] at hL; cases hL
      have z16 : ℓ 16 = false := by
        cases h7 : ℓ 16
        · rfl
        · have := hr.c16 h7; rw [this] at hL; cases hL
      have z17 : ℓ 17 = false := by
        cases h7 : ℓ 17
        · rfl
        · have := hr.c17 h7; rw [this] at hL; cases hL
      have z18 : ℓ 18 = false := by
        cases h7 : ℓ 18
        · rfl
        · have := hr.c18 h7; rw [this] at hL; cases hL
      go_simp
      go_at_call 23
      refine Calls.mono (KN.out _ _ hrow) ?_
      rintro e w9 ⟨V9, Q9, rfl, hb9, hgp9⟩
      have hr9 := hr.below hb9
      exact hK.out _ _ (fun j => if j = 13 then true else ℓ j) ⟨V9, Q9, x23, x24, x25, x26, x27, x28, x29, x30, x31, x32, x33, x34, (.slice (some ⟨N, 0, none⟩) 4 4), (.tuple #[V9, .bool Q9]), x22, x37, x38, x5, x6, (by simp only [Act.put, List.setIfInBounds_toArray, List.set_cons_zero, List.set_cons_succ]), ⟨hr9.gb, (fun _ => hgp9), (fun g => by have g2 : ℓ 14 = true := g; rw [z14] at g2; cases g2), (fun g => by have g2 : ℓ 15 = true := g; rw [z15] at g2; cases g2), (fun g => by have g2 : ℓ 16 = true := g; rw [z16] at g2; cases g2), (fun g => by have g2 : ℓ 17 = true := g; rw [z17] at g2; cases g2), (fun g => by have g2 : ℓ 18 = true := g; rw [z18] at g2; cases g2), hr9.f0, hr9.f1, hr9.f2, hr9.f3, hr9.f4, hr9.f5, hr9.f6, hr9.f7, hr9.f8, hr9.f9, hr9.f10, hr9.f11, hr9.f12, (fun _ => rfl), (fun g => by have g2 : ℓ 14 = true := g; rw [z14] at g2; cases g2), (fun g => by have g2 : ℓ 15 = true := g; rw [z15] at g2; cases g2), (fun g => by have g2 : ℓ 16 = true := g; rw [z16] at g2; cases g2), (fun g => by have g2 : ℓ 17 = true := g; rw [z17] at g2; cases g2), (fun g => by have g2 : ℓ 18 = true := g; rw [z18] at g2; cases g2)⟩⟩ (if_pos rfl) (fun j hj => if_neg hj)
    · revert hK
      obtain rfl := Option.some.inj ho
      have g13 : ℓ 13 = true := hdep { on := 13, ground := Ground.data } (by simp) rfl
      clear hdep ho
      have hgb := hr.gb
      obtain rfl := hr.f13 g13
      intro hK
      rw [if_pos (by rfl)]
      try simp only [Act.put, List.setIfInBounds_toArray, List.set_cons_zero, List.set_cons_succ]
      go_simp
      exact hK.out _ _ (fun j => if j = 14 then true else ℓ j) ⟨V, Q, x23, x24, x25, x26, x27, x28, x29, x30, x31, x32, x33, x34, x35, (.tuple #[V, .bool Q]), (.tuple #[V, .bool Q]), x37, x38, x5, x6, (by simp only [Act.put, List.setIfInBounds_toArray, List.set_cons_zero, List.set_cons_succ]), ⟨hr.gb, hr.gp, (fun _ => g13), hr.c15, hr.c16, hr.c17, hr.c18, hr.f0, hr.f1, hr.f2, hr.f3, hr.f4, hr.f5, hr.f6, hr.f7, hr.f8, hr.f9, hr.f10, hr.f11, hr.f12, hr.f13, (fun _ => rfl), hr.f15, hr.f16, hr.f17, hr.f18⟩⟩ (if_pos rfl) (fun j hj => if_neg hj)
    · revert hK
      obtain rfl := Option.some.inj ho
      have g14 : ℓ 14 = true := hdep { on := 14, ground := Ground.data } (by simp) rfl
      clear hdep ho
      have hgb := hr.gb
      obtain rfl := hr.f14 g14
      intro hK
      rw [if_pos (by rfl)]
      try simp only [Act.put, List.setIfInBounds_toArray, List.set_cons_zero, List.set_cons_succ]
      go_simp
      exact hK.out _ _ (fun j => if j = 15 then true else ℓ j) ⟨V, Q, x23, x24, x25, x26, x27, x28, x29, x30, x31, x32, x33, x34, x35, x36, (.tuple #[V, .bool Q]), (V), x38, x5, x6, (by simp only [Act.put, List.setIfInBounds_toArray, List.set_cons_zero, List.set_cons_succ]), ⟨hr.gb, hr.gp, hr.c14, (fun _ => hr.c14 g14), hr.c16, hr.c17, hr.c18, hr.f0, hr.f1, hr.f2, hr.f3, hr.f4, hr.f5, hr.f6, hr.f7, hr.f8, hr.f9, hr.f10, hr.f11, hr.f12, hr.f13, hr.f14, (fun _ => rfl), hr.f16, hr.f17, hr.f18⟩⟩ (if_pos rfl) (fun j hj => if_neg hj)
    · revert hK
      obtain rfl := Option.some.inj ho
      have g14 : ℓ 14 = true := hdep { on := 14, ground := Ground.data } (by simp) rfl
      clear hdep ho
      have hgb := hr.gb
      obtain rfl := hr.f14 g14
      intro hK
      rw [if_pos (by rfl)]
      try simp only [Act.put, List.setIfInBounds_toArray, List.set_cons_zero, List.set_cons_succ]
      go_simp
      exact hK.out _ _ (fun j => if j = 16 then true else ℓ j) ⟨V, Q, x23, x24, x25, x26, x27, x28, x29, x30, x31, x32, x33, x34, x35, x36, (.tuple #[V, .bool Q]), x37, (.bool Q), x5, x6, (by simp only [Act.put, List.setIfInBounds_toArray, List.set_cons_zero, List.set_cons_succ]), ⟨hr.gb, hr.gp, hr.c14, hr.c15, (fun _ => hr.c14 g14), hr.c17, hr.c18, hr.f0, hr.f1, hr.f2, hr.f3, hr.f4, hr.f5, hr.f6, hr.f7, hr.f8, hr.f9, hr.f10, hr.f11, hr.f12, hr.f13, hr.f14, hr.f15, (fun _ => rfl), hr.f17, hr.f18⟩⟩ (if_pos rfl) (fun j hj => if_neg hj)
    · revert hK
      obtain rfl := Option.some.inj ho
      have g15 : ℓ 15 = true := hdep { on := 15, ground := Ground.data } (by simp) rfl
      clear hdep ho
      have hgb := hr.gb
      obtain rfl := (hr.f15 g15).symm
      intro hK
      rw [if_pos (by rfl)]
      try simp only [Act.put, List.setIfInBounds_toArray, List.set_cons_zero, List.set_cons_succ]
      go_simp
      exact hK.out _ _ (fun j => if j = 17 then true else ℓ j) ⟨V, Q, x23, x24, x25, x26, x27, x28, x29, x30, x31, x32, x33, x34, x35, x36, x22, (V), x38, (V), x6, (by simp only [Act.put, List.setIfInBounds_toArray, List.set_cons_zero, List.set_cons_succ]), ⟨hr.gb, hr.gp, hr.c14, hr.c15, hr.c16, (fun _ => hr.c15 g15), hr.c18, hr.f0, hr.f1, hr.f2, hr.f3, hr.f4, hr.f5, hr.f6, hr.f7, hr.f8, hr.f9, hr.f10, hr.f11, hr.f12, hr.f13, hr.f14, hr.f15, hr.f16, (fun _ => rfl), hr.f18⟩⟩ (if_pos rfl) (fun j hj => if_neg hj)
    · revert hK
      obtain rfl := Option.some.inj ho
      have g16 : ℓ 16 = true := hdep { on := 16, ground := Ground.data } (by simp) rfl
      clear hdep ho
      have hgb := hr.gb
      obtain rfl := hr.f16 g16
      intro hK
      rw [if_pos (by rfl)]
      try simp only [Act.put, List.setIfInBounds_toArray, List.set_cons_zero, List.set_cons_succ]
      go_simp
      exact hK.out _ _ (fun j => if j = 18 then true else ℓ j) ⟨V, Q, x23, x24, x25, x26, x27, x28, x29, x30, x31, x32, x33, x34, x35, x36, x22, x37, (.bool Q), x5, (.bool Q), (by simp only [Act.put, List.setIfInBounds_toArray, List.set_cons_zero, List.set_cons_succ]), ⟨hr.gb, hr.gp, hr.c14, hr.c15, hr.c16, hr.c17, (fun _ => hr.c16 g16), hr.f0, hr.f1, hr.f2, hr.f3, hr.f4, hr.f5, hr.f6, hr.f7, hr.f8, hr.f9, hr.f10, hr.f11, hr.f12, hr.f13, hr.f14, hr.f15, hr.f16, hr.f17, (fun _ => rfl)⟩⟩ (if_pos rfl) (fun j hj => if_neg hj)
  · rintro a' w' ℓ ℓ' hℓ hI
    rw [← show ℓ = ℓ' from funext hℓ]
    exact hI
structure EsTg (W0 : World) (Z C : Array Value) (N : Nat) (v0 : Value) (v1 : Value) (v2 : Value) (v3 : Value) (v4 : Value) (v5 : Value) (v6 : Value) (v7 : Value) (v8 : Value) (v9 : Value) (v10 : Value) (v11 : Value) (v12 : Value) (v13 : Value) (w' : World) (b0 b1 b2 b3 b4 b5 b6 b7 b8 b9 b10 b11 b12 b13 b14 b15 b16 b17 : Bool) (x78 x79 x80 x81 x82 x83 x84 x85 x86 x87 x88 x89 x90 x91 x92 x93 x3 : Value) : Prop where
  cs : b16 = true → b0 = true ∧ b1 = true ∧ b2 = true ∧ b3 = true ∧ b4 = true ∧ b5 = true ∧ b6 = true ∧ b7 = true ∧ b8 = true ∧ b9 = true ∧ b10 = true ∧ b11 = true ∧ b12 = true ∧ b13 = true ∧ b14 = true ∧ b15 = true ∧ True
  gb : Below N W0 w'
  pre : b16 = false → Below W0.heap.size W0 w'
  r0 : b16 = false → w'.heap[N]? = some (.cells Z 26 (0, 0))
  r1 : b16 = true → w'.heap[N]? = some (.cells C 26 (0, 0))
  f0 : b0 = true → x78 = v0
  f1 : b1 = true → x79 = v1
  f2 : b2 = true → x80 = v2
  f3 : b3 = true → x81 = v0
  f4 : b4 = true → x82 = v3
  f5 : b5 = true → x83 = v4
  f6 : b6 = true → x84 = v5
  f7 : b7 = true → x85 = v6
  f8 : b8 = true → x86 = v0
  f9 : b9 = true → x87 = v7
  f10 : b10 = true → x88 = v8
  f11 : b11 = true → x89 = v0
  f12 : b12 = true → x90 = v9
  f13 : b13 = true → x91 = v10
  f14 : b14 = true → x92 = v11
  f15 : b15 = true → x93 = v12
  f17 : b17 = true → x3 = v13
theorem EsTg.below {W0 : World} {Z C : Array Value} {N : Nat} {v0 : Value} {v1 : Value} {v2 : Value} {v3 : Value} {v4 : Value} {v5 : Value} {v6 : Value} {v7 : Value} {v8 : Value} {v9 : Value} {v10 : Value} {v11 : Value} {v12 : Value} {v13 : Value} {w' w9 : World} {b0 b1 b2 b3 b4 b5 b6 b7 b8 b9 b10 b11 b12 b13 b14 b15 b16 b17 : Bool} {x78 x79 x80 x81 x82 x83 x84 x85 x86 x87 x88 x89 x90 x91 x92 x93 x3 : Value} (h : EsTg W0 Z C N v0 v1 v2 v3 v4 v5 v6 v7 v8 v9 v10 v11 v12 v13 w' b0 b1 b2 b3 b4 b5 b6 b7 b8 b9 b10 b11 b12 b13 b14 b15 b16 b17 x78 x79 x80 x81 x82 x83 x84 x85 x86 x87 x88 x89 x90 x91 x92 x93 x3) (hb : Below w'.heap.size w' w9) (hN : N ≤ w'.heap.size) : EsTg W0 Z C N v0 v1 v2 v3 v4 v5 v6 v7 v8 v9 v10 v11 v12 v13 w9 b0 b1 b2 b3 b4 b5 b6 b7 b8 b9 b10 b11 b12 b13 b14 b15 b16 b17 x78 x79 x80 x81 x82 x83 x84 x85 x86 x87 x88 x89 x90 x91 x92 x93 x3 :=
  ⟨h.cs, h.gb.trans (hb.mono hN), fun g => (h.pre g).trans (hb.mono (h.pre g).size), fun g => row_below (h.r0 g) hb, fun g => row_below (h.r1 g) hb, h.f0, h.f1, h.f2, h.f3, h.f4, h.f5, h.f6, h.f7, h.f8, h.f9, h.f10, h.f11, h.f12, h.f13, h.f14, h.f15, h.f17⟩
structure EsRg (W0 : World) (g : Nat) (off : Nat) (cap : Nat) (y0 : ByteArray) (y1 : ByteArray) (y4 : ByteArray) (y5 : ByteArray) (n0 : Int) (n1 : Int) (n4 : Int) (n5 : Int) (V : Value) (Q : Bool) (w' : World) (b0 b1 b2 b3 b4 b5 b6 b7 b8 b9 b10 b11 b12 b13 b14 b15 b16 b17 b18 : Bool) (x23 x24 x25 x26 x27 x28 x29 x30 x31 x32 x33 x34 x35 x36 x22 x37 x38 x5 x6 : Value) : Prop where
  gb : Below W0.heap.size W0 w'
  gp : b13 = true → NV w' V Q true n0 n1 n4 n5
  c14 : b14 = true → b13 = true
  c15 : b15 = true → b13 = true
  c16 : b16 = true → b13 = true
  c17 : b17 = true → b13 = true
  c18 : b18 = true → b13 = true
  f0 : b0 = true → x23 = .slice (some ⟨g, off, none⟩) 7 cap
  f1 : b1 = true → x24 = .pointer (some ⟨g, off, none⟩)
  f2 : b2 = true → x25 = .string y0
  f3 : b3 = true → x26 = .slice (some ⟨g, off, none⟩) 7 cap
  f4 : b4 = true → x27 = .pointer (some ⟨g, off + 1, none⟩)
  f5 : b5 = true → x28 = .string y1
  f6 : b6 = true → x29 = .slice (some ⟨g, off, none⟩) 7 cap
  f7 : b7 = true → x30 = .pointer (some ⟨g, off + 4, none⟩)
  f8 : b8 = true → x31 = .string y4
  f9 : b9 = true → x32 = .slice (some ⟨g, off, none⟩) 7 cap
  f10 : b10 = true → x33 = .pointer (some ⟨g, off + 5, none⟩)
  f11 : b11 = true → x34 = .string y5
  f12 : b12 = true → ∃ N, x35 = .slice (some ⟨N, 0, none⟩) 4 4 ∧ W0.heap.size ≤ N ∧ w'.heap[N]? = some (.cells #[.string y0, .string y1, .string y4, .string y5] 9 (0, 0))
  f13 : b13 = true → x36 = .tuple #[V, .bool Q]
  f14 : b14 = true → x22 = .tuple #[V, .bool Q]
  f15 : b15 = true → x37 = V
  f16 : b16 = true → x38 = .bool Q
  f17 : b17 = true → x5 = V
  f18 : b18 = true → x6 = .bool Q
theorem EsRg.below {W0 : World} {g : Nat} {off : Nat} {cap : Nat} {y0 : ByteArray} {y1 : ByteArray} {y4 : ByteArray} {y5 : ByteArray} {n0 : Int} {n1 : Int} {n4 : Int} {n5 : Int} {V : Value} {Q : Bool} {w' w9 : World} {b0 b1 b2 b3 b4 b5 b6 b7 b8 b9 b10 b11 b12 b13 b14 b15 b16 b17 b18 : Bool} {x23 x24 x25 x26 x27 x28 x29 x30 x31 x32 x33 x34 x35 x36 x22 x37 x38 x5 x6 : Value} (h : EsRg W0 g off cap y0 y1 y4 y5 n0 n1 n4 n5 V Q w' b0 b1 b2 b3 b4 b5 b6 b7 b8 b9 b10 b11 b12 b13 b14 b15 b16 b17 b18 x23 x24 x25 x26 x27 x28 x29 x30 x31 x32 x33 x34 x35 x36 x22 x37 x38 x5 x6) (hb : Below w'.heap.size w' w9) : EsRg W0 g off cap y0 y1 y4 y5 n0 n1 n4 n5 V Q w9 b0 b1 b2 b3 b4 b5 b6 b7 b8 b9 b10 b11 b12 b13 b14 b15 b16 b17 b18 x23 x24 x25 x26 x27 x28 x29 x30 x31 x32 x33 x34 x35 x36 x22 x37 x38 x5 x6 :=
  ⟨h.gb.trans (hb.mono h.gb.size), fun g => (h.gp g).below hb, h.c14, h.c15, h.c16, h.c17, h.c18, h.f0, h.f1, h.f2, h.f3, h.f4, h.f5, h.f6, h.f7, h.f8, h.f9, h.f10, h.f11, fun g => (h.f12 g).imp fun N k => ⟨k.1, k.2.1, row_below k.2.2 hb⟩, h.f13, h.f14, h.f15, h.f16, h.f17, h.f18⟩
set_option maxRecDepth 40000 in
set_option maxHeartbeats 8000000 in
theorem spec_evof_g (s : ByteArray) (hl : s.size ≤ 100) (y0 y1 y2 y3 y4 y5 y6 : ByteArray) (n0 n1 h2 z n4 n5 h6 : Int) (q b2 b6 : Bool)
    (hq : q = true) (h2t : b2 = true) (h6t : b6 = true) (hz : 0 ≤ z)
    (HSP : Hid (∀ X, Calls Tryd.prog 22 #[.string s] X fun e w' => ∃ g off cap, e = .returned (.slice (some ⟨g, off, none⟩) 7 cap) ∧ Below X.heap.size X w' ∧ w'.cell? ⟨g, off, none⟩ = some (.string y0) ∧ w'.cell? ⟨g, off + 1, none⟩ = some (.string y1) ∧ w'.cell? ⟨g, off + 2, none⟩ = some (.string y2) ∧ w'.cell? ⟨g, off + 3, none⟩ = some (.string y3) ∧ w'.cell? ⟨g, off + 4, none⟩ = some (.string y4) ∧ w'.cell? ⟨g, off + 5, none⟩ = some (.string y5) ∧ w'.cell? ⟨g, off + 6, none⟩ = some (.string y6)))
    (KN : Hid (∀ (X : World) (N : Nat), X.heap[N]? = some (.cells #[.string y0, .string y1, .string y4, .string y5] 9 (0, 0)) → Calls Tryd.prog 23 #[.slice (some ⟨N, 0, none⟩) 4 4] X fun e w' => ∃ V Q, e = .returned (.tuple #[V, .bool Q]) ∧ Below X.heap.size X w' ∧ NV w' V Q q n0 n1 n4 n5))
    (K2 : Hid (∀ X, Calls Tryd.prog 24 #[.string y2] X fun e w' => e = .returned (.tuple #[.int .u32 h2, .bool b2]) ∧ w' = X))
    (K6 : Hid (∀ X, Calls Tryd.prog 24 #[.string y6] X fun e w' => e = .returned (.tuple #[.int .u32 h6, .bool b6]) ∧ w' = X))
    (KO : Hid (∀ X, Calls Tryd.prog 25 #[.string y3] X fun e w' => e = .returned (.int .i64 z) ∧ Below X.heap.size X w')) (w : World) :
    Calls Tryd.prog 9 #[.string s] w fun e w' => e = .returned (.tuple #[.agg #[.int .i64 n0, .int .i64 n1, .int .u32 h2, .int .i64 z, .int .i64 n4, .int .i64 n5, .int .u32 h6], .bool true]) ∧ Below w.heap.size w w' := by
  have HR : Hid ((w.alloc (.cells #[.int .i64 0, .int .i64 0, .int .u32 0, .int .i64 0, .int .i64 0, .int .i64 0, .int .u32 0] 26)).heap[w.heap.size]? = some (.cells #[.int .i64 0, .int .i64 0, .int .u32 0, .int .i64 0, .int .i64 0, .int .i64 0, .int .u32 0] 26 (0, 0))) := new_row w _ _ _ rfl
  have HB : Hid (Below w.heap.size w (w.alloc (.cells #[.int .i64 0, .int .i64 0, .int .u32 0, .int .i64 0, .int .i64 0, .int .i64 0, .int .u32 0] 26))) := (Below.refl _ _).alloc (Nat.le_refl _) _
  subst hq
  subst h2t
  subst h6t
  have hz1 : decide (z < 0) = false := decide_eq_false (by omega)
  have HZ : Hid (0 ≤ z) := hz
  clear hz
  have hl1 : decide ((100 : Int) < (s.size : Int)) = false := decide_eq_false (by omega)
  have HL : Hid (s.size ≤ 100) := hl
  clear hl
  go_enter Tryd.func9, Tryd.ntmps9
  go_wp2_with fail
  refine Calls.mono (HSP.out _) ?_
  rintro e W1 ⟨g, off, cap, rfl, hb1, e0, e1, e2, e3, e4, e5, e6⟩
  have HB1 : Hid (Below w.heap.size w W1) := HB.out.trans (hb1.mono HB.out.size)
  have HR1 : Hid (W1.heap[w.heap.size]? = some (.cells #[.int .i64 0, .int .i64 0, .int .u32 0, .int .i64 0, .int .i64 0, .int .i64 0, .int .u32 0] 26 (0, 0))) := row_below HR.out hb1
  clear hb1 HB HR HSP hl1
  go_wp2
  refine wp_region_inv (by kernel_rfl) (by kernel_rfl) (fun A ℓ a' w' => ∃ (V : Value) (Q : Bool) (x23 x24 x25 x26 x27 x28 x29 x30 x31 x32 x33 x34 x35 x36 x22 x37 x38 x5 x6 : Value), a' = (((((((((((((((((((A.put (some 23) x23).put (some 24) x24).put (some 25) x25).put (some 26) x26).put (some 27) x27).put (some 28) x28).put (some 29) x29).put (some 30) x30).put (some 31) x31).put (some 32) x32).put (some 33) x33).put (some 34) x34).put (some 35) x35).put (some 36) x36).put (some 22) x22).put (some 37) x37).put (some 38) x38).put (some 5) x5).put (some 6) x6) ∧ EsRg (W1) (g) (off) (cap) (y0) (y1) (y4) (y5) (n0) (n1) (n4) (n5) V Q w' (ℓ 0) (ℓ 1) (ℓ 2) (ℓ 3) (ℓ 4) (ℓ 5) (ℓ 6) (ℓ 7) (ℓ 8) (ℓ 9) (ℓ 10) (ℓ 11) (ℓ 12) (ℓ 13) (ℓ 14) (ℓ 15) (ℓ 16) (ℓ 17) (ℓ 18) x23 x24 x25 x26 x27 x28 x29 x30 x31 x32 x33 x34 x35 x36 x22 x37 x38 x5 x6) ?_ ?_ ?_ ?_
  · exact ⟨undef, false, undef, undef, undef, undef, undef, undef, undef, undef, undef, undef, undef, undef, undef, undef, undef, undef, undef, undef, undef, (by simp only [Act.put, List.setIfInBounds_toArray, List.set_cons_zero, List.set_cons_succ]), ⟨(Below.refl _ _).drew, (fun g => by cases g), (fun g => by cases g), (fun g => by cases g), (fun g => by cases g), (fun g => by cases g), (fun g => by cases g), (fun g => by cases g), (fun g => by cases g), (fun g => by cases g), (fun g => by cases g), (fun g => by cases g), (fun g => by cases g), (fun g => by cases g), (fun g => by cases g), (fun g => by cases g), (fun g => by cases g), (fun g => by cases g), (fun g => by cases g), (fun g => by cases g), (fun g => by cases g), (fun g => by cases g), (fun g => by cases g), (fun g => by cases g), (fun g => by cases g), (fun g => by cases g)⟩⟩
  · intro ℓ a' w' hI hall
    obtain ⟨V, Q, x23, x24, x25, x26, x27, x28, x29, x30, x31, x32, x33, x34, x35, x36, x22, x37, x38, x5, x6, rfl, hr⟩ := hI
    have hall' : ∀ i, i < 19 → ℓ i = true := hall
    obtain rfl := hr.f0 (hall' 0 (by decide))
    obtain rfl := hr.f1 (hall' 1 (by decide))
    obtain rfl := hr.f2 (hall' 2 (by decide))
    obtain rfl := hr.f3 (hall' 3 (by decide))
    obtain rfl := hr.f4 (hall' 4 (by decide))
    obtain rfl := hr.f5 (hall' 5 (by decide))
    obtain rfl := hr.f6 (hall' 6 (by decide))
    obtain rfl := hr.f7 (hall' 7 (by decide))
    obtain rfl := hr.f8 (hall' 8 (by decide))
    obtain rfl := hr.f9 (hall' 9 (by decide))
    obtain rfl := hr.f10 (hall' 10 (by decide))
    obtain rfl := hr.f11 (hall' 11 (by decide))
    obtain ⟨N12, rfl, hN12, hrow12⟩ := hr.f12 (hall' 12 (by decide))
    obtain rfl := hr.f13 (hall' 13 (by decide))
    obtain rfl := hr.f14 (hall' 14 (by decide))
    obtain rfl := (hr.f15 (hall' 15 (by decide))).symm
    obtain rfl := hr.f16 (hall' 16 (by decide))
    obtain rfl := (hr.f17 (hall' 17 (by decide))).symm
    obtain rfl := hr.f18 (hall' 18 (by decide))
    have hgp := hr.gp (hall' 13 (by decide))
    have hgb := hr.gb
    clear hall hall' hr
    simp only [Act.put, List.setIfInBounds_toArray, List.set_cons_zero, List.set_cons_succ]
    have hgq := hgp.1
    subst hgq
    have HP : Hid (NV w' V true true n0 n1 n4 n5) := hgp
    have HB2 : Hid (Below w.heap.size w w') := HB1.out.trans (hgb.mono HB1.out.size)
    have HR2 : Hid (w'.heap[w.heap.size]? = some (.cells #[.int .i64 0, .int .i64 0, .int .u32 0, .int .i64 0, .int .i64 0, .int .i64 0, .int .u32 0] 26 (0, 0))) := row_below HR1.out hgb
    replace e2 := (hgb.cell (World.block_lt_of_cell? _ _ e2)).trans e2
    replace e3 := (hgb.cell (World.block_lt_of_cell? _ _ e3)).trans e3
    replace e6 := (hgb.cell (World.block_lt_of_cell? _ _ e6)).trans e6
    clear hgb hgp e0 e1 e4 e5 HB1 HR1 KN hrow12 hN12
    go_wp2_with fail
    refine Calls.mono (K2.out _) ?_
    rintro e W2 ⟨rfl, rfl⟩
    go_wp2_with fail
    refine Calls.mono (K6.out _) ?_
    rintro e W2 ⟨rfl, rfl⟩
    go_wp2_with fail
    refine Calls.mono (KO.out _) ?_
    rintro e W3 ⟨rfl, hb3⟩
    have HB3 : Hid (Below w.heap.size w W3) := HB2.out.trans (hb3.mono HB2.out.size)
    have HR3 : Hid (W3.heap[w.heap.size]? = some (.cells #[.int .i64 0, .int .i64 0, .int .u32 0, .int .i64 0, .int .i64 0, .int .i64 0, .int .u32 0] 26 (0, 0))) := row_below HR2.out hb3
    replace e3 := (hb3.cell (World.block_lt_of_cell? _ _ e3)).trans e3
    have HP3 : Hid (NV W3 V true true n0 n1 n4 n5) := HP.out.below hb3
    clear hb3 e2 e6 HB2 HR2 HP K2 K6 KO
    obtain ⟨g2, cap2, rfl, k0, k1, k2, k3⟩ := HP3.out.2 rfl
    have HNW : Hid (w.heap.size ≤ W3.heap.size) := HB3.out.size
    have HRZ : Hid (W3.heap[w.heap.size]? = some (.cells #[.int .i64 0, .int .i64 0, .int .u32 0, .int .i64 0, .int .i64 0, .int .i64 0, .int .u32 0] 26 (0, 0))) := HR3.out
    go_wp2
    refine wp_region_inv (by kernel_rfl) (by kernel_rfl) (fun A ℓ a' w' => ∃ (x78 x79 x80 x81 x82 x83 x84 x85 x86 x87 x88 x89 x90 x91 x92 x93 x3 : Value), a' = (((((((((((((((((A.put (some 78) x78).put (some 79) x79).put (some 80) x80).put (some 81) x81).put (some 82) x82).put (some 83) x83).put (some 84) x84).put (some 85) x85).put (some 86) x86).put (some 87) x87).put (some 88) x88).put (some 89) x89).put (some 90) x90).put (some 91) x91).put (some 92) x92).put (some 93) x93).put (some 3) x3) ∧ EsTg (W3) (#[.int .i64 0, .int .i64 0, .int .u32 0, .int .i64 0, .int .i64 0, .int .i64 0, .int .u32 0]) (#[.int .i64 n0, .int .i64 n1, .int .u32 h2, .int .i64 z, .int .i64 n4, .int .i64 n5, .int .u32 h6]) (w.heap.size) (.slice (some ⟨g2, 0, none⟩) 4 cap2) (.pointer (some ⟨g2, 0, none⟩)) (.int .i64 n0) (.pointer (some ⟨g2, 1, none⟩)) (.int .i64 n1) (.int .u32 h2) (.int .i64 z) (.pointer (some ⟨g2, 2, none⟩)) (.int .i64 n4) (.pointer (some ⟨g2, 3, none⟩)) (.int .i64 n5) (.int .u32 h6) (.agg #[.int .i64 n0, .int .i64 n1, .int .u32 h2, .int .i64 z, .int .i64 n4, .int .i64 n5, .int .u32 h6]) (.bool true) w' (ℓ 0) (ℓ 1) (ℓ 2) (ℓ 3) (ℓ 4) (ℓ 5) (ℓ 6) (ℓ 7) (ℓ 8) (ℓ 9) (ℓ 10) (ℓ 11) (ℓ 12) (ℓ 13) (ℓ 14) (ℓ 15) (ℓ 16) (ℓ 17) x78 x79 x80 x81 x82 x83 x84 x85 x86 x87 x88 x89 x90 x91 x92 x93 x3) ?_ ?_ ?_ ?_
    · exact ⟨undef, undef, undef, undef, undef, undef, undef, undef, undef, undef, undef, undef, undef, undef, undef, undef, (.bool false), (by simp only [Act.put, List.setIfInBounds_toArray, List.set_cons_zero, List.set_cons_succ]), ⟨(fun g => by cases g), ((Below.refl _ _).mono HNW.out).drew, (fun _ => (Below.refl _ _).drew), (fun _ => HRZ.out), (fun g => by cases g), (fun g => by cases g), (fun g => by cases g), (fun g => by cases g), (fun g => by cases g), (fun g => by cases g), (fun g => by cases g), (fun g => by cases g), (fun g => by cases g), (fun g => by cases g), (fun g => by cases g), (fun g => by cases g), (fun g => by cases g), (fun g => by cases g), (fun g => by cases g), (fun g => by cases g), (fun g => by cases g), (fun g => by cases g)⟩⟩
    · intro ℓ a' w' hI hall
      obtain ⟨x78, x79, x80, x81, x82, x83, x84, x85, x86, x87, x88, x89, x90, x91, x92, x93, x3, rfl, hr⟩ := hI
      have hall' : ∀ i, i < 18 → ℓ i = true := hall
      obtain rfl := hr.f0 (hall' 0 (by decide))
      obtain rfl := hr.f1 (hall' 1 (by decide))
      obtain rfl := hr.f2 (hall' 2 (by decide))
      obtain rfl := hr.f3 (hall' 3 (by decide))
      obtain rfl := hr.f4 (hall' 4 (by decide))
      obtain rfl := hr.f5 (hall' 5 (by decide))
      obtain rfl := hr.f6 (hall' 6 (by decide))
      obtain rfl := hr.f7 (hall' 7 (by decide))
      obtain rfl := hr.f8 (hall' 8 (by decide))
      obtain rfl := hr.f9 (hall' 9 (by decide))
      obtain rfl := hr.f10 (hall' 10 (by decide))
      obtain rfl := hr.f11 (hall' 11 (by decide))
      obtain rfl := hr.f12 (hall' 12 (by decide))
      obtain rfl := hr.f13 (hall' 13 (by decide))
      obtain rfl := hr.f14 (hall' 14 (by decide))
      obtain rfl := hr.f15 (hall' 15 (by decide))
      obtain rfl := hr.f17 (hall' 17 (by decide))
      have hrow := hr.r1 (hall' 16 (by decide))
      have hgb := hr.gb
      clear hall hall' hr
      simp only [Act.put, List.setIfInBounds_toArray, List.set_cons_zero, List.set_cons_succ]
      have HBF : Hid (Below w.heap.size w w') := HB3.out.trans (hgb.mono (Nat.le_refl _))
      have m0 := row_c hrow 0 _ rfl
      have m1 := row_c hrow 1 _ rfl
      have m2 := row_c hrow 2 _ rfl
      have m3 := row_c hrow 3 _ rfl
      have m4 := row_c hrow 4 _ rfl
      have m5 := row_c hrow 5 _ rfl
      have m6 := row_c hrow 6 _ rfl
      clear hrow hgb
      go_wp2
      exact bodyPost_ret (v := .tuple #[.agg #[.int .i64 n0, .int .i64 n1, .int .u32 h2, .int .i64 z, .int .i64 n4, .int .i64 n5, .int .u32 h6], .bool true]) (by simp [results, Tryd.results9, go_sem, m0, m1, m2, m3, m4, m5, m6]) rfl ⟨rfl, HBF.out⟩
    · intro ℓ a' w' i o hI ho hi hL hdep K hK
      obtain ⟨x78, x79, x80, x81, x82, x83, x84, x85, x86, x87, x88, x89, x90, x91, x92, x93, x3, rfl, hr⟩ := hI
      have hi7 : i < 18 := hi
      have hcs : i = 0 ∨ i = 1 ∨ i = 2 ∨ i = 3 ∨ i = 4 ∨ i = 5 ∨ i = 6 ∨ i = 7 ∨ i = 8 ∨ i = 9 ∨ i = 10 ∨ i = 11 ∨ i = 12 ∨ i = 13 ∨ i = 14 ∨ i = 15 ∨ i = 16 ∨ i = 17 := by omega
      clear hi hi7
      rcases hcs with rfl | rfl | rfl | rfl | rfl | rfl | rfl | rfl | rfl | rfl | rfl | rfl | rfl | rfl | rfl | rfl | rfl | rfl
      · revert hK
        obtain rfl := Option.some.inj ho
        clear hdep ho
        intro hK
        rw [if_pos (by rfl)]
        try simp only [Act.put, List.setIfInBounds_toArray, List.set_cons_zero, List.set_cons_succ]
        go_simp
        exact hK.out _ _ (fun j => if j = 0 then true else ℓ j) ⟨(.slice (some ⟨g2, 0, none⟩) 4 cap2), x79, x80, x81, x82, x83, x84, x85, x86, x87, x88, x89, x90, x91, x92, x93, x3, (by simp only [Act.put, List.setIfInBounds_toArray, List.set_cons_zero, List.set_cons_succ]), ⟨(fun g => ⟨rfl, (hr.cs g).2.1, (hr.cs g).2.2.1, (hr.cs g).2.2.2.1, (hr.cs g).2.2.2.2.1, (hr.cs g).2.2.2.2.2.1, (hr.cs g).2.2.2.2.2.2.1, (hr.cs g).2.2.2.2.2.2.2.1, (hr.cs g).2.2.2.2.2.2.2.2.1, (hr.cs g).2.2.2.2.2.2.2.2.2.1, (hr.cs g).2.2.2.2.2.2.2.2.2.2.1, (hr.cs g).2.2.2.2.2.2.2.2.2.2.2.1, (hr.cs g).2.2.2.2.2.2.2.2.2.2.2.2.1, (hr.cs g).2.2.2.2.2.2.2.2.2.2.2.2.2.1, (hr.cs g).2.2.2.2.2.2.2.2.2.2.2.2.2.2.1, (hr.cs g).2.2.2.2.2.2.2.2.2.2.2.2.2.2.2.1, trivial⟩), hr.gb, hr.pre, hr.r0, hr.r1, (fun _ => rfl), hr.f1, hr.f2, hr.f3, hr.f4, hr.f5, hr.f6, hr.f7, hr.f8, hr.f9, hr.f10, hr.f11, hr.f12, hr.f13, hr.f14, hr.f15, hr.f17⟩⟩ (if_pos rfl) (fun j hj => if_neg hj)
      · revert hK
        obtain rfl := Option.some.inj ho
        have g0 : ℓ 0 = true := hdep { on := 0, ground := Ground.data } (by simp) rfl
        clear hdep ho
        obtain rfl := hr.f0 g0
        intro hK
        rw [if_pos (by rfl)]
        try simp only [Act.put, List.setIfInBounds_toArray, List.set_cons_zero, List.set_cons_succ]
        go_simp
        exact hK.out _ _ (fun j => if j = 1 then true else ℓ j) ⟨(.slice (some ⟨g2, 0, none⟩) 4 cap2), (.pointer (some ⟨g2, 0, none⟩)), x80, x81, x82, x83, x84, x85, x86, x87, x88, x89, x90, x91, x92, x93, x3, (by simp only [Act.put, List.setIfInBounds_toArray, List.set_cons_zero, List.set_cons_succ]), ⟨(fun g => ⟨(hr.cs g).1, rfl, (hr.cs g).2.2.1, (hr.cs g).2.2.2.1, (hr.cs g).2.2.2.2.1, (hr.cs g).2.2.2.2.2.1, (hr.cs g).2.2.2.2.2.2.1, (hr.cs g).2.2.2.2.2.2.2.1, (hr.cs g).2.2.2.2.2.2.2.2.1, (hr.cs g).2.2.2.2.2.2.2.2.2.1, (hr.cs g).2.2.2.2.2.2.2.2.2.2.1, (hr.cs g).2.2.2.2.2.2.2.2.2.2.2.1, (hr.cs g).2.2.2.2.2.2.2.2.2.2.2.2.1, (hr.cs g).2.2.2.2.2.2.2.2.2.2.2.2.2.1, (hr.cs g).2.2.2.2.2.2.2.2.2.2.2.2.2.2.1, (hr.cs g).2.2.2.2.2.2.2.2.2.2.2.2.2.2.2.1, trivial⟩), hr.gb, hr.pre, hr.r0, hr.r1, hr.f0, (fun _ => rfl), hr.f2, hr.f3, hr.f4, hr.f5, hr.f6, hr.f7, hr.f8, hr.f9, hr.f10, hr.f11, hr.f12, hr.f13, hr.f14, hr.f15, hr.f17⟩⟩ (if_pos rfl) (fun j hj => if_neg hj)
      · revert hK
        obtain rfl := Option.some.inj ho
        have g1 : ℓ 1 = true := hdep { on := 1, ground := Ground.data } (by simp) rfl
        clear hdep ho
        have hl : ℓ 16 = false := by
          cases h7 : ℓ 16
          · rfl
          · have := (hr.cs h7).2.2.1; rw [this] at hL; cases hL
        have hgb : Below (W3).heap.size (W3) w' := hr.pre hl
        obtain rfl := hr.f1 g1
        intro hK
        rw [if_pos (by rfl)]
        try simp only [Act.put, List.setIfInBounds_toArray, List.set_cons_zero, List.set_cons_succ]
        have cc := (hgb.cell (World.block_lt_of_cell? _ _ k0)).trans k0
        go_simp
        exact hK.out _ _ (fun j => if j = 2 then true else ℓ j) ⟨x78, (.pointer (some ⟨g2, 0, none⟩)), (.int .i64 n0), x81, x82, x83, x84, x85, x86, x87, x88, x89, x90, x91, x92, x93, x3, (by simp only [Act.put, List.setIfInBounds_toArray, List.set_cons_zero, List.set_cons_succ]), ⟨(fun g => ⟨(hr.cs g).1, (hr.cs g).2.1, rfl, (hr.cs g).2.2.2.1, (hr.cs g).2.2.2.2.1, (hr.cs g).2.2.2.2.2.1, (hr.cs g).2.2.2.2.2.2.1, (hr.cs g).2.2.2.2.2.2.2.1, (hr.cs g).2.2.2.2.2.2.2.2.1, (hr.cs g).2.2.2.2.2.2.2.2.2.1, (hr.cs g).2.2.2.2.2.2.2.2.2.2.1, (hr.cs g).2.2.2.2.2.2.2.2.2.2.2.1, (hr.cs g).2.2.2.2.2.2.2.2.2.2.2.2.1, (hr.cs g).2.2.2.2.2.2.2.2.2.2.2.2.2.1, (hr.cs g).2.2.2.2.2.2.2.2.2.2.2.2.2.2.1, (hr.cs g).2.2.2.2.2.2.2.2.2.2.2.2.2.2.2.1, trivial⟩), hr.gb, hr.pre, hr.r0, hr.r1, hr.f0, hr.f1, (fun _ => rfl), hr.f3, hr.f4, hr.f5, hr.f6, hr.f7, hr.f8, hr.f9, hr.f10, hr.f11, hr.f12, hr.f13, hr.f14, hr.f15, hr.f17⟩⟩ (if_pos rfl) (fun j hj => if_neg hj)
      · revert hK
        obtain rfl := Option.some.inj ho
        clear hdep ho
        intro hK
        rw [if_pos (by rfl)]
        try simp only [Act.put, List.setIfInBounds_toArray, List.set_cons_zero, List.set_cons_succ]
        go_simp
        exact hK.out _ _ (fun j => if j = 3 then true else ℓ j) ⟨x78, x79, x80, (.slice (some ⟨g2, 0, none⟩) 4 cap2), x82, x83, x84, x85, x86, x87, x88, x89, x90, x91, x92, x93, x3, (by simp only [Act.put, List.setIfInBounds_toArray, List.set_cons_zero, List.set_cons_succ]), ⟨(fun g => ⟨(hr.cs g).1, (hr.cs g).2.1, (hr.cs g).2.2.1, rfl, (hr.cs g).2.2.2.2.1, (hr.cs g).2.2.2.2.2.1, (hr.cs g).2.2.2.2.2.2.1, (hr.cs g).2.2.2.2.2.2.2.1, (hr.cs g).2.2.2.2.2.2.2.2.1, (hr.cs g).2.2.2.2.2.2.2.2.2.1, (hr.cs g).2.2.2.2.2.2.2.2.2.2.1, (hr.cs g).2.2.2.2.2.2.2.2.2.2.2.1, (hr.cs g).2.2.2.2.2.2.2.2.2.2.2.2.1, (hr.cs g).2.2.2.2.2.2.2.2.2.2.2.2.2.1, (hr.cs g).2.2.2.2.2.2.2.2.2.2.2.2.2.2.1, (hr.cs g).2.2.2.2.2.2.2.2.2.2.2.2.2.2.2.1, trivial⟩), hr.gb, hr.pre, hr.r0, hr.r1, hr.f0, hr.f1, hr.f2, (fun _ => rfl), hr.f4, hr.f5, hr.f6, hr.f7, hr.f8, hr.f9, hr.f10, hr.f11, hr.f12, hr.f13, hr.f14, hr.f15, hr.f17⟩⟩ (if_pos rfl) (fun j hj => if_neg hj)
      · revert hK
        obtain rfl := Option.some.inj ho
        have g3 : ℓ 3 = true := hdep { on := 3, ground := Ground.data } (by simp) rfl
        clear hdep ho
        obtain rfl := hr.f3 g3
        intro hK
        rw [if_pos (by rfl)]
        try simp only [Act.put, List.setIfInBounds_toArray, List.set_cons_zero, List.set_cons_succ]
        go_simp
        exact hK.out _ _ (fun j => if j = 4 then true else ℓ j) ⟨x78, x79, x80, (.slice (some ⟨g2, 0, none⟩) 4 cap2), (.pointer (some ⟨g2, 1, none⟩)), x83, x84, x85, x86, x87, x88, x89, x90, x91, x92, x93, x3, (by simp only [Act.put, List.setIfInBounds_toArray, List.set_cons_zero, List.set_cons_succ]), ⟨(fun g => ⟨(hr.cs g).1, (hr.cs g).2.1, (hr.cs g).2.2.1, (hr.cs g).2.2.2.1, rfl, (hr.cs g).2.2.2.2.2.1, (hr.cs g).2.2.2.2.2.2.1, (hr.cs g).2.2.2.2.2.2.2.1, (hr.cs g).2.2.2.2.2.2.2.2.1, (hr.cs g).2.2.2.2.2.2.2.2.2.1, (hr.cs g).2.2.2.2.2.2.2.2.2.2.1, (hr.cs g).2.2.2.2.2.2.2.2.2.2.2.1, (hr.cs g).2.2.2.2.2.2.2.2.2.2.2.2.1, (hr.cs g).2.2.2.2.2.2.2.2.2.2.2.2.2.1, (hr.cs g).2.2.2.2.2.2.2.2.2.2.2.2.2.2.1, (hr.cs g).2.2.2.2.2.2.2.2.2.2.2.2.2.2.2.1, trivial⟩), hr.gb, hr.pre, hr.r0, hr.r1, hr.f0, hr.f1, hr.f2, hr.f3, (fun _ => rfl), hr.f5, hr.f6, hr.f7, hr.f8, hr.f9, hr.f10, hr.f11, hr.f12, hr.f13, hr.f14, hr.f15, hr.f17⟩⟩ (if_pos rfl) (fun j hj => if_neg hj)
      · revert hK
        obtain rfl := Option.some.inj ho
        have g4 : ℓ 4 = true := hdep { on := 4, ground := Ground.data } (by simp) rfl
        clear hdep ho
        have hl : ℓ 16 = false := by
          cases h7 : ℓ 16
          · rfl
          · have := (hr.cs h7).2.2.2.2.2.1; rw [this] at hL; cases hL
        have hgb : Below (W3).heap.size (W3) w' := hr.pre hl
        obtain rfl := hr.f4 g4
        intro hK
        rw [if_pos (by rfl)]
        try simp only [Act.put, List.setIfInBounds_toArray, List.set_cons_zero, List.set_cons_succ]
        have cc := (hgb.cell (World.block_lt_of_cell? _ _ k1)).trans k1
        go_simp
        exact hK.out _ _ (fun j => if j = 5 then true else ℓ j) ⟨x78, x79, x80, x81, (.pointer (some ⟨g2, 1, none⟩)), (.int .i64 n1), x84, x85, x86, x87, x88, x89, x90, x91, x92, x93, x3, (by simp only [Act.put, List.setIfInBounds_toArray, List.set_cons_zero, List.set_cons_succ]), ⟨(fun g => ⟨(hr.cs g).1, (hr.cs g).2.1, (hr.cs g).2.2.1, (hr.cs g).2.2.2.1, (hr.cs g).2.2.2.2.1, rfl, (hr.cs g).2.2.2.2.2.2.1, (hr.cs g).2.2.2.2.2.2.2.1, (hr.cs g).2.2.2.2.2.2.2.2.1, (hr.cs g).2.2.2.2.2.2.2.2.2.1, (hr.cs g).2.2.2.2.2.2.2.2.2.2.1, (hr.cs g).2.2.2.2.2.2.2.2.2.2.2.1, (hr.cs g).2.2.2.2.2.2.2.2.2.2.2.2.1, (hr.cs g).2.2.2.2.2.2.2.2.2.2.2.2.2.1, (hr.cs g).2.2.2.2.2.2.2.2.2.2.2.2.2.2.1, (hr.cs g).2.2.2.2.2.2.2.2.2.2.2.2.2.2.2.1, trivial⟩), hr.gb, hr.pre, hr.r0, hr.r1, hr.f0, hr.f1, hr.f2, hr.f3, hr.f4, (fun _ => rfl), hr.f6, hr.f7, hr.f8, hr.f9, hr.f10, hr.f11, hr.f12, hr.f13, hr.f14, hr.f15, hr.f17⟩⟩ (if_pos rfl) (fun j hj => if_neg hj)
      · revert hK
        obtain rfl := Option.some.inj ho
        clear hdep ho
        intro hK
        rw [if_pos (by rfl)]
        try simp only [Act.put, List.setIfInBounds_toArray, List.set_cons_zero, List.set_cons_succ]
        go_simp
        exact hK.out _ _ (fun j => if j = 6 then true else ℓ j) ⟨x78, x79, x80, x81, x82, x83, (.int .u32 h2), x85, x86, x87, x88, x89, x90, x91, x92, x93, x3, (by simp only [Act.put, List.setIfInBounds_toArray, List.set_cons_zero, List.set_cons_succ]), ⟨(fun g => ⟨(hr.cs g).1, (hr.cs g).2.1, (hr.cs g).2.2.1, (hr.cs g).2.2.2.1, (hr.cs g).2.2.2.2.1, (hr.cs g).2.2.2.2.2.1, rfl, (hr.cs g).2.2.2.2.2.2.2.1, (hr.cs g).2.2.2.2.2.2.2.2.1, (hr.cs g).2.2.2.2.2.2.2.2.2.1, (hr.cs g).2.2.2.2.2.2.2.2.2.2.1, (hr.cs g).2.2.2.2.2.2.2.2.2.2.2.1, (hr.cs g).2.2.2.2.2.2.2.2.2.2.2.2.1, (hr.cs g).2.2.2.2.2.2.2.2.2.2.2.2.2.1, (hr.cs g).2.2.2.2.2.2.2.2.2.2.2.2.2.2.1, (hr.cs g).2.2.2.2.2.2.2.2.2.2.2.2.2.2.2.1, trivial⟩), hr.gb, hr.pre, hr.r0, hr.r1, hr.f0, hr.f1, hr.f2, hr.f3, hr.f4, hr.f5, (fun _ => rfl), hr.f7, hr.f8, hr.f9, hr.f10, hr.f11, hr.f12, hr.f13, hr.f14, hr.f15, hr.f17⟩⟩ (if_pos rfl) (fun j hj => if_neg hj)
      · revert hK
        obtain rfl := Option.some.inj ho
        clear hdep ho
        intro hK
        rw [if_pos (by rfl)]
        try simp only [Act.put, List.setIfInBounds_toArray, List.set_cons_zero, List.set_cons_succ]
        go_simp
        exact hK.out _ _ (fun j => if j = 7 then true else ℓ j) ⟨x78, x79, x80, x81, x82, x83, x84, (.int .i64 z), x86, x87, x88, x89, x90, x91, x92, x93, x3, (by simp only [Act.put, List.setIfInBounds_toArray, List.set_cons_zero, List.set_cons_succ]), ⟨(fun g => ⟨(hr.cs g).1, (hr.cs g).2.1, (hr.cs g).2.2.1, (hr.cs g).2.2.2.1, (hr.cs g).2.2.2.2.1, (hr.cs g).2.2.2.2.2.1, (hr.cs g).2.2.2.2.2.2.1, rfl, (hr.cs g).2.2.2.2.2.2.2.2.1, (hr.cs g).2.2.2.2.2.2.2.2.2.1, (hr.cs g).2.2.2.2.2.2.2.2.2.2.1, (hr.cs g).2.2.2.2.2.2.2.2.2.2.2.1, (hr.cs g).2.2.2.2.2.2.2.2.2.2.2.2.1, (hr.cs g).2.2.2.2.2.2.2.2.2.2.2.2.2.1, (hr.cs g).2.2.2.2.2.2.2.2.2.2.2.2.2.2.1, (hr.cs g).2.2.2.2.2.2.2.2.2.2.2.2.2.2.2.1, trivial⟩), hr.gb, hr.pre, hr.r0, hr.r1, hr.f0, hr.f1, hr.f2, hr.f3, hr.f4, hr.f5, hr.f6, (fun _ => rfl), hr.f8, hr.f9, hr.f10, hr.f11, hr.f12, hr.f13, hr.f14, hr.f15, hr.f17⟩⟩ (if_pos rfl) (fun j hj => if_neg hj)
      · revert hK
        obtain rfl := Option.some.inj ho
        clear hdep ho
        intro hK
        rw [if_pos (by rfl)]
        try simp only [Act.put, List.setIfInBounds_toArray, List.set_cons_zero, List.set_cons_succ]
        go_simp
        exact hK.out _ _ (fun j => if j = 8 then true else ℓ j) ⟨x78, x79, x80, x81, x82, x83, x84, x85, (.slice (some ⟨g2, 0, none⟩) 4 cap2), x87, x88, x89, x90, x91, x92, x93, x3, (by simp only [Act.put, List.setIfInBounds_toArray, List.set_cons_zero, List.set_cons_succ]), ⟨(fun g => ⟨(hr.cs g).1, (hr.cs g).2.1, (hr.cs g).2.2.1, (hr.cs g).2.2.2.1, (hr.cs g).2.2.2.2.1, (hr.cs g).2.2.2.2.2.1, (hr.cs g).2.2.2.2.2.2.1, (hr.cs g).2.2.2.2.2.2.2.1, rfl, (hr.cs g).2.2.2.2.2.2.2.2.2.1, (hr.cs g).2.2.2.2.2.2.2.2.2.2.1, (hr.cs g).2.2.2.2.2.2.2.2.2.2.2.1, (hr.cs g).2.2.2.2.2.2.2.2.2.2.2.2.1, (hr.cs g).2.2.2.2.2.2.2.2.2.2.2.2.2.1, (hr.cs g).2.2.2.2.2.2.2.2.2.2.2.2.2.2.1, (hr.cs g).2.2.2.2.2.2.2.2.2.2.2.2.2.2.2.1, trivial⟩), hr.gb, hr.pre, hr.r0, hr.r1, hr.f0, hr.f1, hr.f2, hr.f3, hr.f4, hr.f5, hr.f6, hr.f7, (fun _ => rfl), hr.f9, hr.f10, hr.f11, hr.f12, hr.f13, hr.f14, hr.f15, hr.f17⟩⟩ (if_pos rfl) (fun j hj => if_neg hj)
      · revert hK
        obtain rfl := Option.some.inj ho
        have g8 : ℓ 8 = true := hdep { on := 8, ground := Ground.data } (by simp) rfl
        clear hdep ho
        obtain rfl := hr.f8 g8
        intro hK
        rw [if_pos (by rfl)]
        try simp only [Act.put, List.setIfInBounds_toArray, List.set_cons_zero, List.set_cons_succ]
        go_simp
        exact hK.out _ _ (fun j => if j = 9 then true else ℓ j) ⟨x78, x79, x80, x81, x82, x83, x84, x85, (.slice (some ⟨g2, 0, none⟩) 4 cap2), (.pointer (some ⟨g2, 2, none⟩)), x88, x89, x90, x91, x92, x93, x3, (by simp only [Act.put, List.setIfInBounds_toArray, List.set_cons_zero, List.set_cons_succ]), ⟨(fun g => ⟨(hr.cs g).1, (hr.cs g).2.1, (hr.cs g).2.2.1, (hr.cs g).2.2.2.1, (hr.cs g).2.2.2.2.1, (hr.cs g).2.2.2.2.2.1, (hr.cs g).2.2.2.2.2.2.1, (hr.cs g).2.2.2.2.2.2.2.1, (hr.cs g).2.2.2.2.2.2.2.2.1, rfl, (hr.cs g).2.2.2.2.2.2.2.2.2.2.1, (hr.cs g).2.2.2.2.2.2.2.2.2.2.2.1, (hr.cs g).2.2.2.2.2.2.2.2.2.2.2.2.1, (hr.cs g).2.2.2.2.2.2.2.2.2.2.2.2.2.1, (hr.cs g).2.2.2.2.2.2.2.2.2.2.2.2.2.2.1, (hr.cs g).2.2.2.2.2.2.2.2.2.2.2.2.2.2.2.1, trivial⟩), hr.gb, hr.pre, hr.r0, hr.r1, hr.f0, hr.f1, hr.f2, hr.f3, hr.f4, hr.f5, hr.f6, hr.f7, hr.f8, (fun _ => rfl), hr.f10, hr.f11, hr.f12, hr.f13, hr.f14, hr.f15, hr.f17⟩⟩ (if_pos rfl) (fun j hj => if_neg hj)
      · revert hK
        obtain rfl := Option.some.inj ho
        have g9 : ℓ 9 = true := hdep { on := 9, ground := Ground.data } (by simp) rfl
        clear hdep ho
        have hl : ℓ 16 = false := by
          cases h7 : ℓ 16
          · rfl
          · have := (hr.cs h7).2.2.2.2.2.2.2.2.2.2.1; rw [this] at hL; cases hL
        have hgb : Below (W3).heap.size (W3) w' := hr.pre hl
        obtain rfl := hr.f9 g9
        intro hK
        rw [if_pos (by rfl)]
        try simp only [Act.put, List.setIfInBounds_toArray, List.set_cons_zero, List.set_cons_succ]
        have cc := (hgb.cell (World.block_lt_of_cell? _ _ k2)).trans k2
        go_simp
        exact hK.out _ _ (fun j => if j = 10 then true else ℓ j) ⟨x78, x79, x80, x81, x82, x83, x84, x85, x86, (.pointer (some ⟨g2, 2, none⟩)), (.int .i64 n4), x89, x90, x91, x92, x93, x3, (by simp only [Act.put, List.setIfInBounds_toArray, List.set_cons_zero, List.set_cons_succ]), ⟨(fun g => ⟨(hr.cs g).1, (hr.cs g).2.1, (hr.cs g).2.2.1, (hr.cs g).2.2.2.1, (hr.cs g).2.2.2.2.1, (hr.cs g).2.2.2.2.2.1, (hr.cs g).2.2.2.2.2.2.1, (hr.cs g).2.2.2.2.2.2.2.1, (hr.cs g).2.2.2.2.2.2.2.2.1, (hr.cs g).2.2.2.2.2.2.2.2.2.1, rfl, (hr.cs g).2.2.2.2.2.2.2.2.2.2.2.1, (hr.cs g).2.2.2.2.2.2.2.2.2.2.2.2.1, (hr.cs g).2.2.2.2.2.2.2.2.2.2.2.2.2.1, (hr.cs g).2.2.2.2.2.2.2.2.2.2.2.2.2.2.1, (hr.cs g).2.2.2.2.2.2.2.2.2.2.2.2.2.2.2.1, trivial⟩), hr.gb, hr.pre, hr.r0, hr.r1, hr.f0, hr.f1, hr.f2, hr.f3, hr.f4, hr.f5, hr.f6, hr.f7, hr.f8, hr.f9, (fun _ => rfl), hr.f11, hr.f12, hr.f13, hr.f14, hr.f15, hr.f17⟩⟩ (if_pos rfl) (fun j hj => if_neg hj)
      · revert hK
        obtain rfl := Option.some.inj ho
        clear hdep ho
        intro hK
        rw [if_pos (by rfl)]
        try simp only [Act.put, List.setIfInBounds_toArray, List.set_cons_zero, List.set_cons_succ]
        go_simp
        exact hK.out _ _ (fun j => if j = 11 then true else ℓ j) ⟨x78, x79, x80, x81, x82, x83, x84, x85, x86, x87, x88, (.slice (some ⟨g2, 0, none⟩) 4 cap2), x90, x91, x92, x93, x3, (by simp only [Act.put, List.setIfInBounds_toArray, List.set_cons_zero, List.set_cons_succ]), ⟨(fun g => ⟨(hr.cs g).1, (hr.cs g).2.1, (hr.cs g).2.2.1, (hr.cs g).2.2.2.1, (hr.cs g).2.2.2.2.1, (hr.cs g).2.2.2.2.2.1, (hr.cs g).2.2.2.2.2.2.1, (hr.cs g).2.2.2.2.2.2.2.1, (hr.cs g).2.2.2.2.2.2.2.2.1, (hr.cs g).2.2.2.2.2.2.2.2.2.1, (hr.cs g).2.2.2.2.2.2.2.2.2.2.1, rfl, (hr.cs g).2.2.2.2.2.2.2.2.2.2.2.2.1, (hr.cs g).2.2.2.2.2.2.2.2.2.2.2.2.2.1, (hr.cs g).2.2.2.2.2.2.2.2.2.2.2.2.2.2.1, (hr.cs g).2.2.2.2.2.2.2.2.2.2.2.2.2.2.2.1, trivial⟩), hr.gb, hr.pre, hr.r0, hr.r1, hr.f0, hr.f1, hr.f2, hr.f3, hr.f4, hr.f5, hr.f6, hr.f7, hr.f8, hr.f9, hr.f10, (fun _ => rfl), hr.f12, hr.f13, hr.f14, hr.f15, hr.f17⟩⟩ (if_pos rfl) (fun j hj => if_neg hj)
      · revert hK
        obtain rfl := Option.some.inj ho
        have g11 : ℓ 11 = true := hdep { on := 11, ground := Ground.data } (by simp) rfl
        clear hdep ho
        obtain rfl := hr.f11 g11
        intro hK
        rw [if_pos (by rfl)]
        try simp only [Act.put, List.setIfInBounds_toArray, List.set_cons_zero, List.set_cons_succ]
        go_simp
        exact hK.out _ _ (fun j => if j = 12 then true else ℓ j) ⟨x78, x79, x80, x81, x82, x83, x84, x85, x86, x87, x88, (.slice (some ⟨g2, 0, none⟩) 4 cap2), (.pointer (some ⟨g2, 3, none⟩)), x91, x92, x93, x3, (by simp only [Act.put, List.setIfInBounds_toArray, List.set_cons_zero, List.set_cons_succ]), ⟨(fun g => ⟨(hr.cs g).1, (hr.cs g).2.1, (hr.cs g).2.2.1, (hr.cs g).2.2.2.1, (hr.cs g).2.2.2.2.1, (hr.cs g).2.2.2.2.2.1, (hr.cs g).2.2.2.2.2.2.1, (hr.cs g).2.2.2.2.2.2.2.1, (hr.cs g).2.2.2.2.2.2.2.2.1, (hr.cs g).2.2.2.2.2.2.2.2.2.1, (hr.cs g).2.2.2.2.2.2.2.2.2.2.1, (hr.cs g).2.2.2.2.2.2.2.2.2.2.2.1, rfl, (hr.cs g).2.2.2.2.2.2.2.2.2.2.2.2.2.1, (hr.cs g).2.2.2.2.2.2.2.2.2.2.2.2.2.2.1, (hr.cs g).2.2.2.2.2.2.2.2.2.2.2.2.2.2.2.1, trivial⟩), hr.gb, hr.pre, hr.r0, hr.r1, hr.f0, hr.f1, hr.f2, hr.f3, hr.f4, hr.f5, hr.f6, hr.f7, hr.f8, hr.f9, hr.f10, hr.f11, (fun _ => rfl), hr.f13, hr.f14, hr.f15, hr.f17⟩⟩ (if_pos rfl) (fun j hj => if_neg hj)
      · revert hK
        obtain rfl := Option.some.inj ho
        have g12 : ℓ 12 = true := hdep { on := 12, ground := Ground.data } (by simp) rfl
        clear hdep ho
        have hl : ℓ 16 = false := by
          cases h7 : ℓ 16
          · rfl
          · have := (hr.cs h7).2.2.2.2.2.2.2.2.2.2.2.2.2.1; rw [this] at hL; cases hL
        have hgb : Below (W3).heap.size (W3) w' := hr.pre hl
        obtain rfl := hr.f12 g12
        intro hK
        rw [if_pos (by rfl)]
        try simp only [Act.put, List.setIfInBounds_toArray, List.set_cons_zero, List.set_cons_succ]
        have cc := (hgb.cell (World.block_lt_of_cell? _ _ k3)).trans k3
        go_simp
        exact hK.out _ _ (fun j => if j = 13 then true else ℓ j) ⟨x78, x79, x80, x81, x82, x83, x84, x85, x86, x87, x88, x89, (.pointer (some ⟨g2, 3, none⟩)), (.int .i64 n5), x92, x93, x3, (by simp only [Act.put, List.setIfInBounds_toArray, List.set_cons_zero, List.set_cons_succ]), ⟨(fun g => ⟨(hr.cs g).1, (hr.cs g).2.1, (hr.cs g).2.2.1, (hr.cs g).2.2.2.1, (hr.cs g).2.2.2.2.1, (hr.cs g).2.2.2.2.2.1, (hr.cs g).2.2.2.2.2.2.1, (hr.cs g).2.2.2.2.2.2.2.1, (hr.cs g).2.2.2.2.2.2.2.2.1, (hr.cs g).2.2.2.2.2.2.2.2.2.1, (hr.cs g).2.2.2.2.2.2.2.2.2.2.1, (hr.cs g).2.2.2.2.2.2.2.2.2.2.2.1, (hr.cs g).2.2.2.2.2.2.2.2.2.2.2.2.1, rfl, (hr.cs g).2.2.2.2.2.2.2.2.2.2.2.2.2.2.1, (hr.cs g).2.2.2.2.2.2.2.2.2.2.2.2.2.2.2.1, trivial⟩), hr.gb, hr.pre, hr.r0, hr.r1, hr.f0, hr.f1, hr.f2, hr.f3, hr.f4, hr.f5, hr.f6, hr.f7, hr.f8, hr.f9, hr.f10, hr.f11, hr.f12, (fun _ => rfl), hr.f14, hr.f15, hr.f17⟩⟩ (if_pos rfl) (fun j hj => if_neg hj)
      · revert hK
        obtain rfl := Option.some.inj ho
        clear hdep ho
        intro hK
        rw [if_pos (by rfl)]
        try simp only [Act.put, List.setIfInBounds_toArray, List.set_cons_zero, List.set_cons_succ]
        go_simp
        exact hK.out _ _ (fun j => if j = 14 then true else ℓ j) ⟨x78, x79, x80, x81, x82, x83, x84, x85, x86, x87, x88, x89, x90, x91, (.int .u32 h6), x93, x3, (by simp only [Act.put, List.setIfInBounds_toArray, List.set_cons_zero, List.set_cons_succ]), ⟨(fun g => ⟨(hr.cs g).1, (hr.cs g).2.1, (hr.cs g).2.2.1, (hr.cs g).2.2.2.1, (hr.cs g).2.2.2.2.1, (hr.cs g).2.2.2.2.2.1, (hr.cs g).2.2.2.2.2.2.1, (hr.cs g).2.2.2.2.2.2.2.1, (hr.cs g).2.2.2.2.2.2.2.2.1, (hr.cs g).2.2.2.2.2.2.2.2.2.1, (hr.cs g).2.2.2.2.2.2.2.2.2.2.1, (hr.cs g).2.2.2.2.2.2.2.2.2.2.2.1, (hr.cs g).2.2.2.2.2.2.2.2.2.2.2.2.1, (hr.cs g).2.2.2.2.2.2.2.2.2.2.2.2.2.1, rfl, (hr.cs g).2.2.2.2.2.2.2.2.2.2.2.2.2.2.2.1, trivial⟩), hr.gb, hr.pre, hr.r0, hr.r1, hr.f0, hr.f1, hr.f2, hr.f3, hr.f4, hr.f5, hr.f6, hr.f7, hr.f8, hr.f9, hr.f10, hr.f11, hr.f12, hr.f13, (fun _ => rfl), hr.f15, hr.f17⟩⟩ (if_pos rfl) (fun j hj => if_neg hj)
      · revert hK
        obtain rfl := Option.some.inj ho
        have g2 : ℓ 2 = true := hdep { on := 2, ground := Ground.data } (by simp) rfl
        have g5 : ℓ 5 = true := hdep { on := 5, ground := Ground.data } (by simp) rfl
        have g6 : ℓ 6 = true := hdep { on := 6, ground := Ground.data } (by simp) rfl
        have g7 : ℓ 7 = true := hdep { on := 7, ground := Ground.data } (by simp) rfl
        have g10 : ℓ 10 = true := hdep { on := 10, ground := Ground.data } (by simp) rfl
        have g13 : ℓ 13 = true := hdep { on := 13, ground := Ground.data } (by simp) rfl
        have g14 : ℓ 14 = true := hdep { on := 14, ground := Ground.data } (by simp) rfl
        clear hdep ho
        obtain rfl := hr.f2 g2
        obtain rfl := hr.f5 g5
        obtain rfl := hr.f6 g6
        obtain rfl := hr.f7 g7
        obtain rfl := hr.f10 g10
        obtain rfl := hr.f13 g13
        obtain rfl := hr.f14 g14
        intro hK
        rw [if_pos (by rfl)]
        try simp only [Act.put, List.setIfInBounds_toArray, List.set_cons_zero, List.set_cons_succ]
        go_simp
        exact hK.out _ _ (fun j => if j = 15 then true else ℓ j) ⟨x78, x79, (.int .i64 n0), x81, x82, (.int .i64 n1), (.int .u32 h2), (.int .i64 z), x86, x87, (.int .i64 n4), x89, x90, (.int .i64 n5), (.int .u32 h6), (.agg #[.int .i64 n0, .int .i64 n1, .int .u32 h2, .int .i64 z, .int .i64 n4, .int .i64 n5, .int .u32 h6]), x3, (by simp only [Act.put, List.setIfInBounds_toArray, List.set_cons_zero, List.set_cons_succ]), ⟨(fun g => ⟨(hr.cs g).1, (hr.cs g).2.1, (hr.cs g).2.2.1, (hr.cs g).2.2.2.1, (hr.cs g).2.2.2.2.1, (hr.cs g).2.2.2.2.2.1, (hr.cs g).2.2.2.2.2.2.1, (hr.cs g).2.2.2.2.2.2.2.1, (hr.cs g).2.2.2.2.2.2.2.2.1, (hr.cs g).2.2.2.2.2.2.2.2.2.1, (hr.cs g).2.2.2.2.2.2.2.2.2.2.1, (hr.cs g).2.2.2.2.2.2.2.2.2.2.2.1, (hr.cs g).2.2.2.2.2.2.2.2.2.2.2.2.1, (hr.cs g).2.2.2.2.2.2.2.2.2.2.2.2.2.1, (hr.cs g).2.2.2.2.2.2.2.2.2.2.2.2.2.2.1, rfl, trivial⟩), hr.gb, hr.pre, hr.r0, hr.r1, hr.f0, hr.f1, hr.f2, hr.f3, hr.f4, hr.f5, hr.f6, hr.f7, hr.f8, hr.f9, hr.f10, hr.f11, hr.f12, hr.f13, hr.f14, (fun _ => rfl), hr.f17⟩⟩ (if_pos rfl) (fun j hj => if_neg hj)
      · replace ho : some ({ dst := none, op := .store 26 (.tmp 2) (.tmp 93), type := 0, pos := "l22_report.go:54", after := #[{ on := 15, ground := Ground.data }, { on := 0, ground := Ground.phase }, { on := 1, ground := Ground.phase }, { on := 2, ground := Ground.phase }, { on := 3, ground := Ground.phase }, { on := 4, ground := Ground.phase }, { on := 5, ground := Ground.phase }, { on := 6, ground := Ground.phase }, { on := 7, ground := Ground.phase }, { on := 8, ground := Ground.phase }, { on := 9, ground := Ground.phase }, { on := 10, ground := Ground.phase }, { on := 11, ground := Ground.phase }, { on := 12, ground := Ground.phase }, { on := 13, ground := Ground.phase }, { on := 14, ground := Ground.phase }, { on := 15, ground := Ground.phase }], guard := none } : Oper) = some o := ho
        revert hK
        obtain rfl := Option.some.inj ho
        have g15 : ℓ 15 = true := hdep { on := 15, ground := Ground.data } (by simp) rfl
        have g0 : ℓ 0 = true := hdep { on := 0, ground := Ground.phase } (by simp) rfl
        have g1 : ℓ 1 = true := hdep { on := 1, ground := Ground.phase } (by simp) rfl
        have g2 : ℓ 2 = true := hdep { on := 2, ground := Ground.phase } (by simp) rfl
        have g3 : ℓ 3 = true := hdep { on := 3, ground := Ground.phase } (by simp) rfl
        have g4 : ℓ 4 = true := hdep { on := 4, ground := Ground.phase } (by simp) rfl
        have g5 : ℓ 5 = true := hdep { on := 5, ground := Ground.phase } (by simp) rfl
        have g6 : ℓ 6 = true := hdep { on := 6, ground := Ground.phase } (by simp) rfl
        have g7 : ℓ 7 = true := hdep { on := 7, ground := Ground.phase } (by simp) rfl
        have g8 : ℓ 8 = true := hdep { on := 8, ground := Ground.phase } (by simp) rfl
        have g9 : ℓ 9 = true := hdep { on := 9, ground := Ground.phase } (by simp) rfl
        have g10 : ℓ 10 = true := hdep { on := 10, ground := Ground.phase } (by simp) rfl
        have g11 : ℓ 11 = true := hdep { on := 11, ground := Ground.phase } (by simp) rfl
        have g12 : ℓ 12 = true := hdep { on := 12, ground := Ground.phase } (by simp) rfl
        have g13 : ℓ 13 = true := hdep { on := 13, ground := Ground.phase } (by simp) rfl
        have g14 : ℓ 14 = true := hdep { on := 14, ground := Ground.phase } (by simp) rfl
        clear hdep ho
        obtain rfl := hr.f15 g15
        intro hK
        rw [if_pos (by rfl)]
        try simp only [Act.put, List.setIfInBounds_toArray, List.set_cons_zero, List.set_cons_succ]
        refine wp_store_row (P := Tryd.prog) 26 (.tmp 2) (.tmp 93) rfl (w.heap.size) (#[.int .i64 n0, .int .i64 n1, .int .u32 h2, .int .i64 z, .int .i64 n4, .int .i64 n5, .int .u32 h6]) rfl rfl 26 (#[.int .i64 0, .int .i64 0, .int .u32 0, .int .i64 0, .int .i64 0, .int .i64 0, .int .u32 0]) (hr.r0 hL) (by kernel_rfl) rfl (by simp [Value.oneCell']) ?_
        exact hK.out _ _ (fun j => if j = 16 then true else ℓ j) ⟨x78, x79, x80, x81, x82, x83, x84, x85, x86, x87, x88, x89, x90, x91, x92, (.agg #[.int .i64 n0, .int .i64 n1, .int .u32 h2, .int .i64 z, .int .i64 n4, .int .i64 n5, .int .u32 h6]), x3, (by simp only [Act.put, List.setIfInBounds_toArray, List.set_cons_zero, List.set_cons_succ]), ⟨(fun _ => ⟨g0, g1, g2, g3, g4, g5, g6, g7, g8, g9, g10, g11, g12, g13, g14, g15, trivial⟩), below_setRow hr.gb (Nat.le_refl _) _, (fun g => by cases g), (fun g => by cases g), (fun _ => setRow_heap _ _ _ _ _ _ (hr.r0 hL)), hr.f0, hr.f1, hr.f2, hr.f3, hr.f4, hr.f5, hr.f6, hr.f7, hr.f8, hr.f9, hr.f10, hr.f11, hr.f12, hr.f13, hr.f14, hr.f15, hr.f17⟩⟩ (if_pos rfl) (fun j hj => if_neg hj)
      · revert hK
        obtain rfl := Option.some.inj ho
        clear hdep ho
        intro hK
        rw [if_pos (by rfl)]
        try simp only [Act.put, List.setIfInBounds_toArray, List.set_cons_zero, List.set_cons_succ]
        go_simp
        exact hK.out _ _ (fun j => if j = 17 then true else ℓ j) ⟨x78, x79, x80, x81, x82, x83, x84, x85, x86, x87, x88, x89, x90, x91, x92, x93, (.bool true), (by simp only [Act.put, List.setIfInBounds_toArray, List.set_cons_zero, List.set_cons_succ]), ⟨hr.cs, hr.gb, hr.pre, hr.r0, hr.r1, hr.f0, hr.f1, hr.f2, hr.f3, hr.f4, hr.f5, hr.f6, hr.f7, hr.f8, hr.f9, hr.f10, hr.f11, hr.f12, hr.f13, hr.f14, hr.f15, (fun _ => rfl)⟩⟩ (if_pos rfl) (fun j hj => if_neg hj)
    · rintro a' w' ℓ ℓ' hℓ hI
      rw [← show ℓ = ℓ' from funext hℓ]
      exact hI
  · intro ℓ a' w' i o hI ho hi hL hdep K hK
    obtain ⟨V, Q, x23, x24, x25, x26, x27, x28, x29, x30, x31, x32, x33, x34, x35, x36, x22, x37, x38, x5, x6, rfl, hr⟩ := hI
    have hi7 : i < 19 := hi
    have hcs : i = 0 ∨ i = 1 ∨ i = 2 ∨ i = 3 ∨ i = 4 ∨ i = 5 ∨ i = 6 ∨ i = 7 ∨ i = 8 ∨ i = 9 ∨ i = 10 ∨ i = 11 ∨ i = 12 ∨ i = 13 ∨ i = 14 ∨ i = 15 ∨ i = 16 ∨ i = 17 ∨ i = 18 := by omega
    clear hi hi7
    rcases hcs with rfl | rfl | rfl | rfl | rfl | rfl | rfl | rfl | rfl | rfl | rfl | rfl | rfl | rfl | rfl | rfl | rfl | rfl | rfl
    · revert hK
      obtain rfl := Option.some.inj ho
      clear hdep ho
      have hgb := hr.gb
      intro hK
      rw [if_pos (by rfl)]
      try simp only [Act.put, List.setIfInBounds_toArray, List.set_cons_zero, List.set_cons_succ]
      go_simp
      exact hK.out _ _ (fun j => if j = 0 then true else ℓ j) ⟨V, Q, (.slice (some ⟨g, off, none⟩) 7 cap), x24, x25, x26, x27, x28, x29, x30, x31, x32, x33, x34, x35, x36, x22, x37, x38, x5, x6, (by simp only [Act.put, List.setIfInBounds_toArray, List.set_cons_zero, List.set_cons_succ]), ⟨hr.gb, hr.gp, hr.c14, hr.c15, hr.c16, hr.c17, hr.c18, (fun _ => rfl), hr.f1, hr.f2, hr.f3, hr.f4, hr.f5, hr.f6, hr.f7, hr.f8, hr.f9, hr.f10, hr.f11, hr.f12, hr.f13, hr.f14, hr.f15, hr.f16, hr.f17, hr.f18⟩⟩ (if_pos rfl) (fun j hj => if_neg hj)
    · revert hK
      obtain rfl := Option.some.inj ho
      have g0 : ℓ 0 = true := hdep { on := 0, ground := Ground.data } (by simp) rfl
      clear hdep ho
      have hgb := hr.gb
      obtain rfl := hr.f0 g0
      intro hK
      rw [if_pos (by rfl)]
      try simp only [Act.put, List.setIfInBounds_toArray, List.set_cons_zero, List.set_cons_succ]
      go_simp
      exact hK.out _ _ (fun j => if j = 1 then true else ℓ j) ⟨V, Q, (.slice (some ⟨g, off, none⟩) 7 cap), (.pointer (some ⟨g, off, none⟩)), x25, x26, x27, x28, x29, x30, x31, x32, x33, x34, x35, x36, x22, x37, x38, x5, x6, (by simp only [Act.put, List.setIfInBounds_toArray, List.set_cons_zero, List.set_cons_succ]), ⟨hr.gb, hr.gp, hr.c14, hr.c15, hr.c16, hr.c17, hr.c18, hr.f0, (fun _ => rfl), hr.f2, hr.f3, hr.f4, hr.f5, hr.f6, hr.f7, hr.f8, hr.f9, hr.f10, hr.f11, hr.f12, hr.f13, hr.f14, hr.f15, hr.f16, hr.f17, hr.f18⟩⟩ (if_pos rfl) (fun j hj => if_neg hj)
    · revert hK
      obtain rfl := Option.some.inj ho
      have g1 : ℓ 1 = true := hdep { on := 1, ground := Ground.data } (by simp) rfl
      clear hdep ho
      have hgb := hr.gb
      obtain rfl := hr.f1 g1
      intro hK
      rw [if_pos (by rfl)]
      try simp only [Act.put, List.setIfInBounds_toArray, List.set_cons_zero, List.set_cons_succ]
      have cc := (hgb.cell (World.block_lt_of_cell? _ _ e0)).trans e0
      go_simp
      exact hK.out _ _ (fun j => if j = 2 then true else ℓ j) ⟨V, Q, x23, (.pointer (some ⟨g, off, none⟩)), (.string y0), x26, x27, x28, x29, x30, x31, x32, x33, x34, x35, x36, x22, x37, x38, x5, x6, (by simp only [Act.put, List.setIfInBounds_toArray, List.set_cons_zero, List.set_cons_succ]), ⟨hr.gb, hr.gp, hr.c14, hr.c15, hr.c16, hr.c17, hr.c18, hr.f0, hr.f1, (fun _ => rfl), hr.f3, hr.f4, hr.f5, hr.f6, hr.f7, hr.f8, hr.f9, hr.f10, hr.f11, hr.f12, hr.f13, hr.f14, hr.f15, hr.f16, hr.f17, hr.f18⟩⟩ (if_pos rfl) (fun j hj => if_neg hj)
    · revert hK
      obtain rfl := Option.some.inj ho
      clear hdep ho
      have hgb := hr.gb
      intro hK
      rw [if_pos (by rfl)]
      try simp only [Act.put, List.setIfInBounds_toArray, List.set_cons_zero, List.set_cons_succ]
      go_simp
      exact hK.out _ _ (fun j => if j = 3 then true else ℓ j) ⟨V, Q, x23, x24, x25, (.slice (some ⟨g, off, none⟩) 7 cap), x27, x28, x29, x30, x31, x32, x33, x34, x35, x36, x22, x37, x38, x5, x6, (by simp only [Act.put, List.setIfInBounds_toArray, List.set_cons_zero, List.set_cons_succ]), ⟨hr.gb, hr.gp, hr.c14, hr.c15, hr.c16, hr.c17, hr.c18, hr.f0, hr.f1, hr.f2, (fun _ => rfl), hr.f4, hr.f5, hr.f6, hr.f7, hr.f8, hr.f9, hr.f10, hr.f11, hr.f12, hr.f13, hr.f14, hr.f15, hr.f16, hr.f17, hr.f18⟩⟩ (if_pos rfl) (fun j hj => if_neg hj)
    · revert hK
      obtain rfl := Option.some.inj ho
      have g3 : ℓ 3 = true := hdep { on := 3, ground := Ground.data } (by simp) rfl
      clear hdep ho
      have hgb := hr.gb
      obtain rfl := hr.f3 g3
      intro hK
      rw [if_pos (by rfl)]
      try simp only [Act.put, List.setIfInBounds_toArray, List.set_cons_zero, List.set_cons_succ]
      go_simp
      exact hK.out _ _ (fun j => if j = 4 then true else ℓ j) ⟨V, Q, x23, x24, x25, (.slice (some ⟨g, off, none⟩) 7 cap), (.pointer (some ⟨g, off + 1, none⟩)), x28, x29, x30, x31, x32, x33, x34, x35, x36, x22, x37, x38, x5, x6, (by simp only [Act.put, List.setIfInBounds_toArray, List.set_cons_zero, List.set_cons_succ]), ⟨hr.gb, hr.gp, hr.c14, hr.c15, hr.c16, hr.c17, hr.c18, hr.f0, hr.f1, hr.f2, hr.f3, (fun _ => rfl), hr.f5, hr.f6, hr.f7, hr.f8, hr.f9, hr.f10, hr.f11, hr.f12, hr.f13, hr.f14, hr.f15, hr.f16, hr.f17, hr.f18⟩⟩ (if_pos rfl) (fun j hj => if_neg hj)
    · revert hK
      obtain rfl := Option.some.inj ho
      have g4 : ℓ 4 = true := hdep { on := 4, ground := Ground.data } (by simp) rfl
      clear hdep ho
      have hgb := hr.gb
      obtain rfl := hr.f4 g4
      intro hK
      rw [if_pos (by rfl)]
      try simp only [Act.put, List.setIfInBounds_toArray, List.set_cons_zero, List.set_cons_succ]
      have cc := (hgb.cell (World.block_lt_of_cell? _ _ e1)).trans e1
      go_simp
      exact hK.out _ _ (fun j => if j = 5 then true else ℓ j) ⟨V, Q, x23, x24, x25, x26, (.pointer (some ⟨g, off + 1, none⟩)), (.string y1), x29, x30, x31, x32, x33, x34, x35, x36, x22, x37, x38, x5, x6, (by simp only [Act.put, List.setIfInBounds_toArray, List.set_cons_zero, List.set_cons_succ]), ⟨hr.gb, hr.gp, hr.c14, hr.c15, hr.c16, hr.c17, hr.c18, hr.f0, hr.f1, hr.f2, hr.f3, hr.f4, (fun _ => rfl), hr.f6, hr.f7, hr.f8, hr.f9, hr.f10, hr.f11, hr.f12, hr.f13, hr.f14, hr.f15, hr.f16, hr.f17, hr.f18⟩⟩ (if_pos rfl) (fun j hj => if_neg hj)
    · revert hK
      obtain rfl := Option.some.inj ho
      clear hdep ho
      have hgb := hr.gb
      intro hK
      rw [if_pos (by rfl)]
      try simp only [Act.put, List.setIfInBounds_toArray, List.set_cons_zero, List.set_cons_succ]
      go_simp
      exact hK.out _ _ (fun j => if j = 6 then true else ℓ j) ⟨V, Q, x23, x24, x25, x26, x27, x28, (.slice (some ⟨g, off, none⟩) 7 cap), x30, x31, x32, x33, x34, x35, x36, x22, x37, x38, x5, x6, (by simp only [Act.put, List.setIfInBounds_toArray, List.set_cons_zero, List.set_cons_succ]), ⟨hr.gb, hr.gp, hr.c14, hr.c15, hr.c16, hr.c17, hr.c18, hr.f0, hr.f1, hr.f2, hr.f3, hr.f4, hr.f5, (fun _ => rfl), hr.f7, hr.f8, hr.f9, hr.f10, hr.f11, hr.f12, hr.f13, hr.f14, hr.f15, hr.f16, hr.f17, hr.f18⟩⟩ (if_pos rfl) (fun j hj => if_neg hj)
    · revert hK
      obtain rfl := Option.some.inj ho
      have g6 : ℓ 6 = true := hdep { on := 6, ground := Ground.data } (by simp) rfl
      clear hdep ho
      have hgb := hr.gb
      obtain rfl := hr.f6 g6
      intro hK
      rw [if_pos (by rfl)]
      try simp only [Act.put, List.setIfInBounds_toArray, List.set_cons_zero, List.set_cons_succ]
      go_simp
      exact hK.out _ _ (fun j => if j = 7 then true else ℓ j) ⟨V, Q, x23, x24, x25, x26, x27, x28, (.slice (some ⟨g, off, none⟩) 7 cap), (.pointer (some ⟨g, off + 4, none⟩)), x31, x32, x33, x34, x35, x36, x22, x37, x38, x5, x6, (by simp only [Act.put, List.setIfInBounds_toArray, List.set_cons_zero, List.set_cons_succ]), ⟨hr.gb, hr.gp, hr.c14, hr.c15, hr.c16, hr.c17, hr.c18, hr.f0, hr.f1, hr.f2, hr.f3, hr.f4, hr.f5, hr.f6, (fun _ => rfl), hr.f8, hr.f9, hr.f10, hr.f11, hr.f12, hr.f13, hr.f14, hr.f15, hr.f16, hr.f17, hr.f18⟩⟩ (if_pos rfl) (fun j hj => if_neg hj)
    · revert hK
      obtain rfl := Option.some.inj ho
      have g7 : ℓ 7 = true := hdep { on := 7, ground := Ground.data } (by simp) rfl
      clear hdep ho
      have hgb := hr.gb
      obtain rfl := hr.f7 g7
      intro hK
      rw [if_pos (by rfl)]
      try simp only [Act.put, List.setIfInBounds_toArray, List.set_cons_zero, List.set_cons_succ]
      have cc := (hgb.cell (World.block_lt_of_cell? _ _ e4)).trans e4
      go_simp
      exact hK.out _ _ (fun j => if j = 8 then true else ℓ j) ⟨V, Q, x23, x24, x25, x26, x27, x28, x29, (.pointer (some ⟨g, off + 4, none⟩)), (.string y4), x32, x33, x34, x35, x36, x22, x37, x38, x5, x6, (by simp only [Act.put, List.setIfInBounds_toArray, List.set_cons_zero, List.set_cons_succ]), ⟨hr.gb, hr.gp, hr.c14, hr.c15, hr.c16, hr.c17, hr.c18, hr.f0, hr.f1, hr.f2, hr.f3, hr.f4, hr.f5, hr.f6, hr.f7, (fun _ => rfl), hr.f9, hr.f10, hr.f11, hr.f12, hr.f13, hr.f14, hr.f15, hr.f16, hr.f17, hr.f18⟩⟩ (if_pos rfl) (fun j hj => if_neg hj)
    · revert hK
      obtain rfl := Option.some.inj ho
      clear hdep ho
      have hgb := hr.gb
      intro hK
      rw [if_pos (by rfl)]
      try simp only [Act.put, List.setIfInBounds_toArray, List.set_cons_zero, List.set_cons_succ]
      go_simp
      exact hK.out _ _ (fun j => if j = 9 then true else ℓ j) ⟨V, Q, x23, x24, x25, x26, x27, x28, x29, x30, x31, (.slice (some ⟨g, off, none⟩) 7 cap), x33, x34, x35, x36, x22, x37, x38, x5, x6, (by simp only [Act.put, List.setIfInBounds_toArray, List.set_cons_zero, List.set_cons_succ]), ⟨hr.gb, hr.gp, hr.c14, hr.c15, hr.c16, hr.c17, hr.c18, hr.f0, hr.f1, hr.f2, hr.f3, hr.f4, hr.f5, hr.f6, hr.f7, hr.f8, (fun _ => rfl), hr.f10, hr.f11, hr.f12, hr.f13, hr.f14, hr.f15, hr.f16, hr.f17, hr.f18⟩⟩ (if_pos rfl) (fun j hj => if_neg hj)
    · revert hK
      obtain rfl := Option.some.inj ho
      have g9 : ℓ 9 = true := hdep { on := 9, ground := Ground.data } (by simp) rfl
      clear hdep ho
      have hgb := hr.gb
      obtain rfl := hr.f9 g9
      intro hK
      rw [if_pos (by rfl)]
      try simp only [Act.put, List.setIfInBounds_toArray, List.set_cons_zero, List.set_cons_succ]
      go_simp
      exact hK.out _ _ (fun j => if j = 10 then true else ℓ j) ⟨V, Q, x23, x24, x25, x26, x27, x28, x29, x30, x31, (.slice (some ⟨g, off, none⟩) 7 cap), (.pointer (some ⟨g, off + 5, none⟩)), x34, x35, x36, x22, x37, x38, x5, x6, (by simp only [Act.put, List.setIfInBounds_toArray, List.set_cons_zero, List.set_cons_succ]), ⟨hr.gb, hr.gp, hr.c14, hr.c15, hr.c16, hr.c17, hr.c18, hr.f0, hr.f1, hr.f2, hr.f3, hr.f4, hr.f5, hr.f6, hr.f7, hr.f8, hr.f9, (fun _ => rfl), hr.f11, hr.f12, hr.f13, hr.f14, hr.f15, hr.f16, hr.f17, hr.f18⟩⟩ (if_pos rfl) (fun j hj => if_neg hj)
    · revert hK
      obtain rfl := Option.some.inj ho
      have g10 : ℓ 10 = true := hdep { on := 10, ground := Ground.data } (by simp) rfl
      clear hdep ho
      have hgb := hr.gb
      obtain rfl := hr.f10 g10
      intro hK
      rw [if_pos (by rfl)]
      try simp only [Act.put, List.setIfInBounds_toArray, List.set_cons_zero, List.set_cons_succ]
      have cc := (hgb.cell (World.block_lt_of_cell? _ _ e5)).trans e5
      go_simp
      exact hK.out _ _ (fun j => if j = 11 then true else ℓ j) ⟨V, Q, x23, x24, x25, x26, x27, x28, x29, x30, x31, x32, (.pointer (some ⟨g, off + 5, none⟩)), (.string y5), x35, x36, x22, x37, x38, x5, x6, (by simp only [Act.put, List.setIfInBounds_toArray, List.set_cons_zero, List.set_cons_succ]), ⟨hr.gb, hr.gp, hr.c14, hr.c15, hr.c16, hr.c17, hr.c18, hr.f0, hr.f1, hr.f2, hr.f3, hr.f4, hr.f5, hr.f6, hr.f7, hr.f8, hr.f9, hr.f10, (fun _ => rfl), hr.f12, hr.f13, hr.f14, hr.f15, hr.f16, hr.f17, hr.f18⟩⟩ (if_pos rfl) (fun j hj => if_neg hj)
    · revert hK
      obtain rfl := Option.some.inj ho
      have g2 : ℓ 2 = true := hdep { on := 2, ground := Ground.data } (by simp) rfl
      have g5 : ℓ 5 = true := hdep { on := 5, ground := Ground.data } (by simp) rfl
      have g8 : ℓ 8 = true := hdep { on := 8, ground := Ground.data } (by simp) rfl
      have g11 : ℓ 11 = true := hdep { on := 11, ground := Ground.data } (by simp) rfl
      clear hdep ho
      have hgb := hr.gb
      obtain rfl := hr.f2 g2
      obtain rfl := hr.f5 g5
      obtain rfl := hr.f8 g8
      obtain rfl := hr.f11 g11
      intro hK
      rw [if_pos (by rfl)]
      try simp only [Act.put, List.setIfInBounds_toArray, List.set_cons_zero, List.set_cons_succ]
      have hr9 := hr.below (w9 := w'.alloc (.cells (#[.string y0, .string y1, .string y4, .string y5]) 9)) ((Below.refl _ _).alloc (Nat.le_refl _) _)
      go_simp
      exact hK.out _ _ (fun j => if j = 12 then true else ℓ j) ⟨V, Q, x23, x24, (.string y0), x26, x27, (.string y1), x29, x30, (.string y4), x32, x33, (.string y5), (.slice (some ⟨w'.heap.size, 0, none⟩) 4 4), x36, x22, x37, x38, x5, x6, (by simp only [Act.put, List.setIfInBounds_toArray, List.set_cons_zero, List.set_cons_succ]), ⟨hr9.gb, hr9.gp, hr9.c14, hr9.c15, hr9.c16, hr9.c17, hr9.c18, hr9.f0, hr9.f1, hr9.f2, hr9.f3, hr9.f4, hr9.f5, hr9.f6, hr9.f7, hr9.f8, hr9.f9, hr9.f10, hr9.f11, (fun _ => ⟨w'.heap.size, rfl, hgb.size, new_row w' _ _ _ rfl⟩), hr9.f13, hr9.f14, hr9.f15, hr9.f16, hr9.f17, hr9.f18⟩⟩ (if_pos rfl) (fun j hj => if_neg hj)
    · revert hK
      obtain rfl := Option.some.inj ho
      have g12 : ℓ 12 = true := hdep { on := 12, ground := Ground.data } (by simp) rfl
      clear hdep ho
      have hgb := hr.gb
      obtain ⟨N, rfl, hN, hrow⟩ := hr.f12 g12
      intro hK
      rw [if_pos (by rfl)]
      try simp only [Act.put, List.setIfInBounds_toArray, List.set_cons_zero, List.set_cons_succ]
      have z14 : ℓ 14 = false := by
        cases h7 : ℓ 14
        · rfl
        · have := hr.c14 h7; rw [this] at hL; cases hL
      have z15 : ℓ 15 = false := by
        cases h7 : ℓ 15
        · rfl
        · have := hr.c15 h7; rw [this] at hL; cases hL
      have z16 : ℓ 16 = false := by
        cases h7 : ℓ 16
        · rfl
        · have := hr.c16 h7; rw [this] at hL; cases hL
      have z17 : ℓ 17 = false := by
        cases h7 : ℓ 17
        · rfl
        · have := hr.c17 h7; rw [this] at hL; cases hL
      have z18 : ℓ 18 = false := by
        cases h7 : ℓ 18
        · rfl
        · have := hr.c18 h7; rw [this] at hL; cases hL
      go_simp
      go_at_call 23
      refine Calls.mono (KN.out _ _ hrow) ?_
      rintro e w9 ⟨V9, Q9, rfl, hb9, hgp9⟩
      have hr9 := hr.below hb9
      exact hK.out _ _ (fun j => if j = 13 then true else ℓ j) ⟨V9, Q9, x23, x24, x25, x26, x27, x28, x29, x30, x31, x32, x33, x34, (.slice (some ⟨N, 0, none⟩) 4 4), (.tuple #[V9, .bool Q9]), x22, x37, x38, x5, x6, (by simp only [Act.put, List.setIfInBounds_toArray, List.set_cons_zero, List.set_cons_succ]), ⟨hr9.gb, (fun _ => hgp9), (fun g => by have g2 : ℓ 14 = true := g; rw [z14] at g2; cases g2), (fun g => by have g2 : ℓ 15 = true := g; rw [z15] at g2; cases g2), (fun g => by have g2 : ℓ 16 = true := g; rw [z16] at g2; cases g2), (fun g => by have g2 : ℓ 17 = true := g; rw [z17] at g2; cases g2), (fun g => by have g2 : ℓ 18 = true := g; rw [z18] at g2; cases g2), hr9.f0, hr9.f1, hr9.f2, hr9.f3, hr9.f4, hr9.f5, hr9.f6, hr9.f7, hr9.f8, hr9.f9, hr9.f10, hr9.f11, hr9.f12, (fun _ => rfl), (fun g => by have g2 : ℓ 14 = true := g; rw [z14] at g2; cases g2), (fun g => by have g2 : ℓ 15 = true := g; rw [z15] at g2; cases g2), (fun g => by have g2 : ℓ 16 = true := g; rw [z16] at g2; cases g2), (fun g => by have g2 : ℓ 17 = true := g; rw [z17] at g2; cases g2), (fun g => by have g2 : ℓ 18 = true := g; rw [z18] at g2; cases g2)⟩⟩ (if_pos rfl) (fun j hj => if_neg hj)
    · revert hK
      obtain rfl := Option.some.inj ho
      have g13 : ℓ 13 = true := hdep { on := 13, ground := Ground.data } (by simp) rfl
      clear hdep ho
      have hgb := hr.gb
      obtain rfl := hr.f13 g13
      intro hK
      rw [if_pos (by rfl)]
      try simp only [Act.put, List.setIfInBounds_toArray, List.set_cons_zero, List.set_cons_succ]
      go_simp
      exact hK.out _ _ (fun j => if j = 14 then true else ℓ j) ⟨V, Q, x23, x24, x25, x26, x27, x28, x29, x30, x31, x32, x33, x34, x35, (.tuple #[V, .bool Q]), (.tuple #[V, .bool Q]), x37, x38, x5, x6, (by simp only [Act.put, List.setIfInBounds_toArray, List.set_cons_zero, List.set_cons_succ]), ⟨hr.gb, hr.gp, (fun _ => g13), hr.c15, hr.c16, hr.c17, hr.c18, hr.f0, hr.f1, hr.f2, hr.f3, hr.f4, hr.f5, hr.f6, hr.f7, hr.f8, hr.f9, hr.f10, hr.f11, hr.f12, hr.f13, (fun _ => rfl), hr.f15, hr.f16, hr.f17, hr.f18⟩⟩ (if_pos rfl) (fun j hj => if_neg hj)
    · revert hK
      obtain rfl := Option.some.inj ho
      have g14 : ℓ 14 = true := hdep { on := 14, ground := Ground.data } (by simp) rfl
      clear hdep ho
      have hgb := hr.gb
      obtain rfl := hr.f14 g14
      intro hK
      rw [if_pos (by rfl)]
      try simp only [Act.put, List.setIfInBounds_toArray, List.set_cons_zero, List.set_cons_succ]
      go_simp
      exact hK.out _ _ (fun j => if j = 15 then true else ℓ j) ⟨V, Q, x23, x24, x25, x26, x27, x28, x29, x30, x31, x32, x33, x34, x35, x36, (.tuple #[V, .bool Q]), (V), x38, x5, x6, (by simp only [Act.put, List.setIfInBounds_toArray, List.set_cons_zero, List.set_cons_succ]), ⟨hr.gb, hr.gp, hr.c14, (fun _ => hr.c14 g14), hr.c16, hr.c17, hr.c18, hr.f0, hr.f1, hr.f2, hr.f3, hr.f4, hr.f5, hr.f6, hr.f7, hr.f8, hr.f9, hr.f10, hr.f11, hr.f12, hr.f13, hr.f14, (fun _ => rfl), hr.f16, hr.f17, hr.f18⟩⟩ (if_pos rfl) (fun j hj => if_neg hj)
    · revert hK
      obtain rfl := Option.some.inj ho
      have g14 : ℓ 14 = true := hdep { on := 14, ground := Ground.data } (by simp) rfl
      clear hdep ho
      have hgb := hr.gb
      obtain rfl := hr.f14 g14
      intro hK
      rw [if_pos (by rfl)]
      try simp only [Act.put, List.setIfInBounds_toArray, List.set_cons_zero, List.set_cons_succ]
      go_simp
      exact hK.out _ _ (fun j => if j = 16 then true else ℓ j) ⟨V, Q, x23, x24, x25, x26, x27, x28, x29, x30, x31, x32, x33, x34, x35, x36, (.tuple #[V, .bool Q]), x37, (.bool Q), x5, x6, (by simp only [Act.put, List.setIfInBounds_toArray, List.set_cons_zero, List.set_cons_succ]), ⟨hr.gb, hr.gp, hr.c14, hr.c15, (fun _ => hr.c14 g14), hr.c17, hr.c18, hr.f0, hr.f1, hr.f2, hr.f3, hr.f4, hr.f5, hr.f6, hr.f7, hr.f8, hr.f9, hr.f10, hr.f11, hr.f12, hr.f13, hr.f14, hr.f15, (fun _ => rfl), hr.f17, hr.f18⟩⟩ (if_pos rfl) (fun j hj => if_neg hj)
    · revert hK
      obtain rfl := Option.some.inj ho
      have g15 : ℓ 15 = true := hdep { on := 15, ground := Ground.data } (by simp) rfl
      clear hdep ho
      have hgb := hr.gb
      obtain rfl := (hr.f15 g15).symm
      intro hK
      rw [if_pos (by rfl)]
      try simp only [Act.put, List.setIfInBounds_toArray, List.set_cons_zero, List.set_cons_succ]
      go_simp
      exact hK.out _ _ (fun j => if j = 17 then true else ℓ j) ⟨V, Q, x23, x24, x25, x26, x27, x28, x29, x30, x31, x32, x33, x34, x35, x36, x22, (V), x38, (V), x6, (by simp only [Act.put, List.setIfInBounds_toArray, List.set_cons_zero, List.set_cons_succ]), ⟨hr.gb, hr.gp, hr.c14, hr.c15, hr.c16, (fun _ => hr.c15 g15), hr.c18, hr.f0, hr.f1, hr.f2, hr.f3, hr.f4, hr.f5, hr.f6, hr.f7, hr.f8, hr.f9, hr.f10, hr.f11, hr.f12, hr.f13, hr.f14, hr.f15, hr.f16, (fun _ => rfl), hr.f18⟩⟩ (if_pos rfl) (fun j hj => if_neg hj)
    · revert hK
      obtain rfl := Option.some.inj ho
      have g16 : ℓ 16 = true := hdep { on := 16, ground := Ground.data } (by simp) rfl
      clear hdep ho
      have hgb := hr.gb
      obtain rfl := hr.f16 g16
      intro hK
      rw [if_pos (by rfl)]
      try simp only [Act.put, List.setIfInBounds_toArray, List.set_cons_zero, List.set_cons_succ]
      go_simp
      exact hK.out _ _ (fun j => if j = 18 then true else ℓ j) ⟨V, Q, x23, x24, x25, x26, x27, x28, x29, x30, x31, x32, x33, x34, x35, x36, x22, x37, (.bool Q), x5, (.bool Q), (by simp only [Act.put, List.setIfInBounds_toArray, List.set_cons_zero, List.set_cons_succ]), ⟨hr.gb, hr.gp, hr.c14, hr.c15, hr.c16, hr.c17, (fun _ => hr.c16 g16), hr.f0, hr.f1, hr.f2, hr.f3, hr.f4, hr.f5, hr.f6, hr.f7, hr.f8, hr.f9, hr.f10, hr.f11, hr.f12, hr.f13, hr.f14, hr.f15, hr.f16, hr.f17, (fun _ => rfl)⟩⟩ (if_pos rfl) (fun j hj => if_neg hj)
  · rintro a' w' ℓ ℓ' hℓ hI
    rw [← show ℓ = ℓ' from funext hℓ]
    exact hI
structure EsTd (W0 : World) (Z C : Array Value) (N : Nat) (v0 : Value) (v1 : Value) (v2 : Value) (v3 : Value) (v4 : Value) (v5 : Value) (v6 : Value) (v7 : Value) (v8 : Value) (v9 : Value) (v10 : Value) (v11 : Value) (v12 : Value) (v13 : Value) (w' : World) (b0 b1 b2 b3 b4 b5 b6 b7 b8 b9 b10 b11 b12 b13 b14 b15 b16 b17 : Bool) (x78 x79 x80 x81 x82 x83 x84 x85 x86 x87 x88 x89 x90 x91 x92 x93 x3 : Value) : Prop where
  cs : b16 = true → b0 = true ∧ b1 = true ∧ b2 = true ∧ b3 = true ∧ b4 = true ∧ b5 = true ∧ b6 = true ∧ b7 = true ∧ b8 = true ∧ b9 = true ∧ b10 = true ∧ b11 = true ∧ b12 = true ∧ b13 = true ∧ b14 = true ∧ b15 = true ∧ True
  gb : Below N W0 w'
  pre : b16 = false → Below W0.heap.size W0 w'
  r0 : b16 = false → w'.heap[N]? = some (.cells Z 26 (0, 0))
  r1 : b16 = true → w'.heap[N]? = some (.cells C 26 (0, 0))
  f0 : b0 = true → x78 = v0
  f1 : b1 = true → x79 = v1
  f2 : b2 = true → x80 = v2
  f3 : b3 = true → x81 = v0
  f4 : b4 = true → x82 = v3
  f5 : b5 = true → x83 = v4
  f6 : b6 = true → x84 = v5
  f7 : b7 = true → x85 = v6
  f8 : b8 = true → x86 = v0
  f9 : b9 = true → x87 = v7
  f10 : b10 = true → x88 = v8
  f11 : b11 = true → x89 = v0
  f12 : b12 = true → x90 = v9
  f13 : b13 = true → x91 = v10
  f14 : b14 = true → x92 = v11
  f15 : b15 = true → x93 = v12
  f17 : b17 = true → x3 = v13
theorem EsTd.below {W0 : World} {Z C : Array Value} {N : Nat} {v0 : Value} {v1 : Value} {v2 : Value} {v3 : Value} {v4 : Value} {v5 : Value} {v6 : Value} {v7 : Value} {v8 : Value} {v9 : Value} {v10 : Value} {v11 : Value} {v12 : Value} {v13 : Value} {w' w9 : World} {b0 b1 b2 b3 b4 b5 b6 b7 b8 b9 b10 b11 b12 b13 b14 b15 b16 b17 : Bool} {x78 x79 x80 x81 x82 x83 x84 x85 x86 x87 x88 x89 x90 x91 x92 x93 x3 : Value} (h : EsTd W0 Z C N v0 v1 v2 v3 v4 v5 v6 v7 v8 v9 v10 v11 v12 v13 w' b0 b1 b2 b3 b4 b5 b6 b7 b8 b9 b10 b11 b12 b13 b14 b15 b16 b17 x78 x79 x80 x81 x82 x83 x84 x85 x86 x87 x88 x89 x90 x91 x92 x93 x3) (hb : Below w'.heap.size w' w9) (hN : N ≤ w'.heap.size) : EsTd W0 Z C N v0 v1 v2 v3 v4 v5 v6 v7 v8 v9 v10 v11 v12 v13 w9 b0 b1 b2 b3 b4 b5 b6 b7 b8 b9 b10 b11 b12 b13 b14 b15 b16 b17 x78 x79 x80 x81 x82 x83 x84 x85 x86 x87 x88 x89 x90 x91 x92 x93 x3 :=
  ⟨h.cs, h.gb.trans (hb.mono hN), fun g => (h.pre g).trans (hb.mono (h.pre g).size), fun g => row_below (h.r0 g) hb, fun g => row_below (h.r1 g) hb, h.f0, h.f1, h.f2, h.f3, h.f4, h.f5, h.f6, h.f7, h.f8, h.f9, h.f10, h.f11, h.f12, h.f13, h.f14, h.f15, h.f17⟩
structure EsRd (W0 : World) (g : Nat) (off : Nat) (cap : Nat) (y0 : ByteArray) (y1 : ByteArray) (y4 : ByteArray) (y5 : ByteArray) (n0 : Int) (n1 : Int) (n4 : Int) (n5 : Int) (V : Value) (Q : Bool) (w' : World) (b0 b1 b2 b3 b4 b5 b6 b7 b8 b9 b10 b11 b12 b13 b14 b15 b16 b17 b18 : Bool) (x23 x24 x25 x26 x27 x28 x29 x30 x31 x32 x33 x34 x35 x36 x22 x37 x38 x5 x6 : Value) : Prop where
  gb : Below W0.heap.size W0 w'
  gp : b13 = true → NV w' V Q true n0 n1 n4 n5
  c14 : b14 = true → b13 = true
  c15 : b15 = true → b13 = true
  c16 : b16 = true → b13 = true
  c17 : b17 = true → b13 = true
  c18 : b18 = true → b13 = true
  f0 : b0 = true → x23 = .slice (some ⟨g, off, none⟩) 7 cap
  f1 : b1 = true → x24 = .pointer (some ⟨g, off, none⟩)
  f2 : b2 = true → x25 = .string y0
  f3 : b3 = true → x26 = .slice (some ⟨g, off, none⟩) 7 cap
  f4 : b4 = true → x27 = .pointer (some ⟨g, off + 1, none⟩)
  f5 : b5 = true → x28 = .string y1
  f6 : b6 = true → x29 = .slice (some ⟨g, off, none⟩) 7 cap
  f7 : b7 = true → x30 = .pointer (some ⟨g, off + 4, none⟩)
  f8 : b8 = true → x31 = .string y4
  f9 : b9 = true → x32 = .slice (some ⟨g, off, none⟩) 7 cap
  f10 : b10 = true → x33 = .pointer (some ⟨g, off + 5, none⟩)
  f11 : b11 = true → x34 = .string y5
  f12 : b12 = true → ∃ N, x35 = .slice (some ⟨N, 0, none⟩) 4 4 ∧ W0.heap.size ≤ N ∧ w'.heap[N]? = some (.cells #[.string y0, .string y1, .string y4, .string y5] 9 (0, 0))
  f13 : b13 = true → x36 = .tuple #[V, .bool Q]
  f14 : b14 = true → x22 = .tuple #[V, .bool Q]
  f15 : b15 = true → x37 = V
  f16 : b16 = true → x38 = .bool Q
  f17 : b17 = true → x5 = V
  f18 : b18 = true → x6 = .bool Q
theorem EsRd.below {W0 : World} {g : Nat} {off : Nat} {cap : Nat} {y0 : ByteArray} {y1 : ByteArray} {y4 : ByteArray} {y5 : ByteArray} {n0 : Int} {n1 : Int} {n4 : Int} {n5 : Int} {V : Value} {Q : Bool} {w' w9 : World} {b0 b1 b2 b3 b4 b5 b6 b7 b8 b9 b10 b11 b12 b13 b14 b15 b16 b17 b18 : Bool} {x23 x24 x25 x26 x27 x28 x29 x30 x31 x32 x33 x34 x35 x36 x22 x37 x38 x5 x6 : Value} (h : EsRd W0 g off cap y0 y1 y4 y5 n0 n1 n4 n5 V Q w' b0 b1 b2 b3 b4 b5 b6 b7 b8 b9 b10 b11 b12 b13 b14 b15 b16 b17 b18 x23 x24 x25 x26 x27 x28 x29 x30 x31 x32 x33 x34 x35 x36 x22 x37 x38 x5 x6) (hb : Below w'.heap.size w' w9) : EsRd W0 g off cap y0 y1 y4 y5 n0 n1 n4 n5 V Q w9 b0 b1 b2 b3 b4 b5 b6 b7 b8 b9 b10 b11 b12 b13 b14 b15 b16 b17 b18 x23 x24 x25 x26 x27 x28 x29 x30 x31 x32 x33 x34 x35 x36 x22 x37 x38 x5 x6 :=
  ⟨h.gb.trans (hb.mono h.gb.size), fun g => (h.gp g).below hb, h.c14, h.c15, h.c16, h.c17, h.c18, h.f0, h.f1, h.f2, h.f3, h.f4, h.f5, h.f6, h.f7, h.f8, h.f9, h.f10, h.f11, fun g => (h.f12 g).imp fun N k => ⟨k.1, k.2.1, row_below k.2.2 hb⟩, h.f13, h.f14, h.f15, h.f16, h.f17, h.f18⟩
set_option maxRecDepth 40000 in
set_option maxHeartbeats 8000000 in
theorem spec_evof_d (s : ByteArray) (hl : s.size ≤ 100) (y0 y1 y2 y3 y4 y5 y6 : ByteArray) (n0 n1 h2 z n4 n5 h6 : Int) (q b2 b6 : Bool)
    (hq : q = true) (h2t : b2 = true) (h6t : b6 = true) (hz : z < 0) (hd : y3 = Ex.dash)
    (HSP : Hid (∀ X, Calls Tryd.prog 22 #[.string s] X fun e w' => ∃ g off cap, e = .returned (.slice (some ⟨g, off, none⟩) 7 cap) ∧ Below X.heap.size X w' ∧ w'.cell? ⟨g, off, none⟩ = some (.string y0) ∧ w'.cell? ⟨g, off + 1, none⟩ = some (.string y1) ∧ w'.cell? ⟨g, off + 2, none⟩ = some (.string y2) ∧ w'.cell? ⟨g, off + 3, none⟩ = some (.string y3) ∧ w'.cell? ⟨g, off + 4, none⟩ = some (.string y4) ∧ w'.cell? ⟨g, off + 5, none⟩ = some (.string y5) ∧ w'.cell? ⟨g, off + 6, none⟩ = some (.string y6)))
    (KN : Hid (∀ (X : World) (N : Nat), X.heap[N]? = some (.cells #[.string y0, .string y1, .string y4, .string y5] 9 (0, 0)) → Calls Tryd.prog 23 #[.slice (some ⟨N, 0, none⟩) 4 4] X fun e w' => ∃ V Q, e = .returned (.tuple #[V, .bool Q]) ∧ Below X.heap.size X w' ∧ NV w' V Q q n0 n1 n4 n5))
    (K2 : Hid (∀ X, Calls Tryd.prog 24 #[.string y2] X fun e w' => e = .returned (.tuple #[.int .u32 h2, .bool b2]) ∧ w' = X))
    (K6 : Hid (∀ X, Calls Tryd.prog 24 #[.string y6] X fun e w' => e = .returned (.tuple #[.int .u32 h6, .bool b6]) ∧ w' = X))
    (KO : Hid (∀ X, Calls Tryd.prog 25 #[.string y3] X fun e w' => e = .returned (.int .i64 z) ∧ Below X.heap.size X w')) (w : World) :
    Calls Tryd.prog 9 #[.string s] w fun e w' => e = .returned (.tuple #[.agg #[.int .i64 n0, .int .i64 n1, .int .u32 h2, .int .i64 z, .int .i64 n4, .int .i64 n5, .int .u32 h6], .bool true]) ∧ Below w.heap.size w w' := by
  have HR : Hid ((w.alloc (.cells #[.int .i64 0, .int .i64 0, .int .u32 0, .int .i64 0, .int .i64 0, .int .i64 0, .int .u32 0] 26)).heap[w.heap.size]? = some (.cells #[.int .i64 0, .int .i64 0, .int .u32 0, .int .i64 0, .int .i64 0, .int .i64 0, .int .u32 0] 26 (0, 0))) := new_row w _ _ _ rfl
  have HB : Hid (Below w.heap.size w (w.alloc (.cells #[.int .i64 0, .int .i64 0, .int .u32 0, .int .i64 0, .int .i64 0, .int .i64 0, .int .u32 0] 26))) := (Below.refl _ _).alloc (Nat.le_refl _) _
  subst hq
  subst h2t
  subst h6t
  have HD : Hid (y3 = Ex.dash) := hd
  have hd1 : (y3.toList == [45]) = true := by rw [hd]; exact dash_yes
  clear hd
  have hz1 : decide (z < 0) = true := decide_eq_true hz
  have HZ : Hid (z < 0) := hz
  clear hz
  have hl1 : decide ((100 : Int) < (s.size : Int)) = false := decide_eq_false (by omega)
  have HL : Hid (s.size ≤ 100) := hl
  clear hl
  go_enter Tryd.func9, Tryd.ntmps9
  go_wp2_with fail
  refine Calls.mono (HSP.out _) ?_
  rintro e W1 ⟨g, off, cap, rfl, hb1, e0, e1, e2, e3, e4, e5, e6⟩
  have HB1 : Hid (Below w.heap.size w W1) := HB.out.trans (hb1.mono HB.out.size)
  have HR1 : Hid (W1.heap[w.heap.size]? = some (.cells #[.int .i64 0, .int .i64 0, .int .u32 0, .int .i64 0, .int .i64 0, .int .i64 0, .int .u32 0] 26 (0, 0))) := row_below HR.out hb1
  clear hb1 HB HR HSP hl1
  go_wp2
  refine wp_region_inv (by kernel_rfl) (by kernel_rfl) (fun A ℓ a' w' => ∃ (V : Value) (Q : Bool) (x23 x24 x25 x26 x27 x28 x29 x30 x31 x32 x33 x34 x35 x36 x22 x37 x38 x5 x6 : Value), a' = (((((((((((((((((((A.put (some 23) x23).put (some 24) x24).put (some 25) x25).put (some 26) x26).put (some 27) x27).put (some 28) x28).put (some 29) x29).put (some 30) x30).put (some 31) x31).put (some 32) x32).put (some 33) x33).put (some 34) x34).put (some 35) x35).put (some 36) x36).put (some 22) x22).put (some 37) x37).put (some 38) x38).put (some 5) x5).put (some 6) x6) ∧ EsRd (W1) (g) (off) (cap) (y0) (y1) (y4) (y5) (n0) (n1) (n4) (n5) V Q w' (ℓ 0) (ℓ 1) (ℓ 2) (ℓ 3) (ℓ 4) (ℓ 5) (ℓ 6) (ℓ 7) (ℓ 8) (ℓ 9) (ℓ 10) (ℓ 11) (ℓ 12) (ℓ 13) (ℓ 14) (ℓ 15) (ℓ 16) (ℓ 17) (ℓ 18) x23 x24 x25 x26 x27 x28 x29 x30 x31 x32 x33 x34 x35 x36 x22 x37 x38 x5 x6) ?_ ?_ ?_ ?_
  · exact ⟨undef, false, undef, undef, undef, undef, undef, undef, undef, undef, undef, undef, undef, undef, undef, undef, undef, undef, undef, undef, undef, (by simp only [Act.put, List.setIfInBounds_toArray, List.set_cons_zero, List.set_cons_succ]), ⟨(Below.refl _ _).drew, (fun g => by cases g), (fun g => by cases g), (fun g => by cases g), (fun g => by cases g), (fun g => by cases g), (fun g => by cases g), (fun g => by cases g), (fun g => by cases g), (fun g => by cases g), (fun g => by cases g), (fun g => by cases g), (fun g => by cases g), (fun g => by cases g), (fun g => by cases g), (fun g => by cases g), (fun g => by cases g), (fun g => by cases g), (fun g => by cases g), (fun g => by cases g), (fun g => by cases g), (fun g => by cases g), (fun g => by cases g), (fun g => by cases g), (fun g => by cases g), (fun g => by cases g)⟩⟩
  · intro ℓ a' w' hI hall
    obtain ⟨V, Q, x23, x24, x25, x26, x27, x28, x29, x30, x31, x32, x33, x34, x35, x36, x22, x37, x38, x5, x6, rfl, hr⟩ := hI
    have hall' : ∀ i, i < 19 → ℓ i = true := hall
    obtain rfl := hr.f0 (hall' 0 (by decide))
    obtain rfl := hr.f1 (hall' 1 (by decide))
    obtain rfl := hr.f2 (hall' 2 (by decide))
    obtain rfl := hr.f3 (hall' 3 (by decide))
    obtain rfl := hr.f4 (hall' 4 (by decide))
    obtain rfl := hr.f5 (hall' 5 (by decide))
    obtain rfl := hr.f6 (hall' 6 (by decide))
    obtain rfl := hr.f7 (hall' 7 (by decide))
    obtain rfl := hr.f8 (hall' 8 (by decide))
    obtain rfl := hr.f9 (hall' 9 (by decide))
    obtain rfl := hr.f10 (hall' 10 (by decide))
    obtain rfl := hr.f11 (hall' 11 (by decide))
    obtain ⟨N12, rfl, hN12, hrow12⟩ := hr.f12 (hall' 12 (by decide))
    obtain rfl := hr.f13 (hall' 13 (by decide))
    obtain rfl := hr.f14 (hall' 14 (by decide))
    obtain rfl := (hr.f15 (hall' 15 (by decide))).symm
    obtain rfl := hr.f16 (hall' 16 (by decide))
    obtain rfl := (hr.f17 (hall' 17 (by decide))).symm
    obtain rfl := hr.f18 (hall' 18 (by decide))
    have hgp := hr.gp (hall' 13 (by decide))
    have hgb := hr.gb
    clear hall hall' hr
    simp only [Act.put, List.setIfInBounds_toArray, List.set_cons_zero, List.set_cons_succ]
    have hgq := hgp.1
    subst hgq
    have HP : Hid (NV w' V true true n0 n1 n4 n5) := hgp
    have HB2 : Hid (Below w.heap.size w w') := HB1.out.trans (hgb.mono HB1.out.size)
    have HR2 : Hid (w'.heap[w.heap.size]? = some (.cells #[.int .i64 0, .int .i64 0, .int .u32 0, .int .i64 0, .int .i64 0, .int .i64 0, .int .u32 0] 26 (0, 0))) := row_below HR1.out hgb
    replace e2 := (hgb.cell (World.block_lt_of_cell? _ _ e2)).trans e2
    replace e3 := (hgb.cell (World.block_lt_of_cell? _ _ e3)).trans e3
    replace e6 := (hgb.cell (World.block_lt_of_cell? _ _ e6)).trans e6
    clear hgb hgp e0 e1 e4 e5 HB1 HR1 KN hrow12 hN12
    go_wp2_with fail
    refine Calls.mono (K2.out _) ?_
    rintro e W2 ⟨rfl, rfl⟩
    go_wp2_with fail
    refine Calls.mono (K6.out _) ?_
    rintro e W2 ⟨rfl, rfl⟩
    go_wp2_with fail
    refine Calls.mono (KO.out _) ?_
    rintro e W3 ⟨rfl, hb3⟩
    have HB3 : Hid (Below w.heap.size w W3) := HB2.out.trans (hb3.mono HB2.out.size)
    have HR3 : Hid (W3.heap[w.heap.size]? = some (.cells #[.int .i64 0, .int .i64 0, .int .u32 0, .int .i64 0, .int .i64 0, .int .i64 0, .int .u32 0] 26 (0, 0))) := row_below HR2.out hb3
    replace e3 := (hb3.cell (World.block_lt_of_cell? _ _ e3)).trans e3
    have HP3 : Hid (NV W3 V true true n0 n1 n4 n5) := HP.out.below hb3
    clear hb3 e2 e6 HB2 HR2 HP K2 K6 KO
    obtain ⟨g2, cap2, rfl, k0, k1, k2, k3⟩ := HP3.out.2 rfl
    have HNW : Hid (w.heap.size ≤ W3.heap.size) := HB3.out.size
    have HRZ : Hid (W3.heap[w.heap.size]? = some (.cells #[.int .i64 0, .int .i64 0, .int .u32 0, .int .i64 0, .int .i64 0, .int .i64 0, .int .u32 0] 26 (0, 0))) := HR3.out
    go_wp2
    refine wp_region_inv (by kernel_rfl) (by kernel_rfl) (fun A ℓ a' w' => ∃ (x78 x79 x80 x81 x82 x83 x84 x85 x86 x87 x88 x89 x90 x91 x92 x93 x3 : Value), a' = (((((((((((((((((A.put (some 78) x78).put (some 79) x79).put (some 80) x80).put (some 81) x81).put (some 82) x82).put (some 83) x83).put (some 84) x84).put (some 85) x85).put (some 86) x86).put (some 87) x87).put (some 88) x88).put (some 89) x89).put (some 90) x90).put (some 91) x91).put (some 92) x92).put (some 93) x93).put (some 3) x3) ∧ EsTd (W3) (#[.int .i64 0, .int .i64 0, .int .u32 0, .int .i64 0, .int .i64 0, .int .i64 0, .int .u32 0]) (#[.int .i64 n0, .int .i64 n1, .int .u32 h2, .int .i64 z, .int .i64 n4, .int .i64 n5, .int .u32 h6]) (w.heap.size) (.slice (some ⟨g2, 0, none⟩) 4 cap2) (.pointer (some ⟨g2, 0, none⟩)) (.int .i64 n0) (.pointer (some ⟨g2, 1, none⟩)) (.int .i64 n1) (.int .u32 h2) (.int .i64 z) (.pointer (some ⟨g2, 2, none⟩)) (.int .i64 n4) (.pointer (some ⟨g2, 3, none⟩)) (.int .i64 n5) (.int .u32 h6) (.agg #[.int .i64 n0, .int .i64 n1, .int .u32 h2, .int .i64 z, .int .i64 n4, .int .i64 n5, .int .u32 h6]) (.bool true) w' (ℓ 0) (ℓ 1) (ℓ 2) (ℓ 3) (ℓ 4) (ℓ 5) (ℓ 6) (ℓ 7) (ℓ 8) (ℓ 9) (ℓ 10) (ℓ 11) (ℓ 12) (ℓ 13) (ℓ 14) (ℓ 15) (ℓ 16) (ℓ 17) x78 x79 x80 x81 x82 x83 x84 x85 x86 x87 x88 x89 x90 x91 x92 x93 x3) ?_ ?_ ?_ ?_
    · exact ⟨undef, undef, undef, undef, undef, undef, undef, undef, undef, undef, undef, undef, undef, undef, undef, undef, (.bool false), (by simp only [Act.put, List.setIfInBounds_toArray, List.set_cons_zero, List.set_cons_succ]), ⟨(fun g => by cases g), ((Below.refl _ _).mono HNW.out).drew, (fun _ => (Below.refl _ _).drew), (fun _ => HRZ.out), (fun g => by cases g), (fun g => by cases g), (fun g => by cases g), (fun g => by cases g), (fun g => by cases g), (fun g => by cases g), (fun g => by cases g), (fun g => by cases g), (fun g => by cases g), (fun g => by cases g), (fun g => by cases g), (fun g => by cases g), (fun g => by cases g), (fun g => by cases g), (fun g => by cases g), (fun g => by cases g), (fun g => by cases g), (fun g => by cases g)⟩⟩
    · intro ℓ a' w' hI hall
      obtain ⟨x78, x79, x80, x81, x82, x83, x84, x85, x86, x87, x88, x89, x90, x91, x92, x93, x3, rfl, hr⟩ := hI
      have hall' : ∀ i, i < 18 → ℓ i = true := hall
      obtain rfl := hr.f0 (hall' 0 (by decide))
      obtain rfl := hr.f1 (hall' 1 (by decide))
      obtain rfl := hr.f2 (hall' 2 (by decide))
      obtain rfl := hr.f3 (hall' 3 (by decide))
      obtain rfl := hr.f4 (hall' 4 (by decide))
      obtain rfl := hr.f5 (hall' 5 (by decide))
      obtain rfl := hr.f6 (hall' 6 (by decide))
      obtain rfl := hr.f7 (hall' 7 (by decide))
      obtain rfl := hr.f8 (hall' 8 (by decide))
      obtain rfl := hr.f9 (hall' 9 (by decide))
      obtain rfl := hr.f10 (hall' 10 (by decide))
      obtain rfl := hr.f11 (hall' 11 (by decide))
      obtain rfl := hr.f12 (hall' 12 (by decide))
      obtain rfl := hr.f13 (hall' 13 (by decide))
      obtain rfl := hr.f14 (hall' 14 (by decide))
      obtain rfl := hr.f15 (hall' 15 (by decide))
      obtain rfl := hr.f17 (hall' 17 (by decide))
      have hrow := hr.r1 (hall' 16 (by decide))
      have hgb := hr.gb
      clear hall hall' hr
      simp only [Act.put, List.setIfInBounds_toArray, List.set_cons_zero, List.set_cons_succ]
      have HBF : Hid (Below w.heap.size w w') := HB3.out.trans (hgb.mono (Nat.le_refl _))
      have m0 := row_c hrow 0 _ rfl
      have m1 := row_c hrow 1 _ rfl
      have m2 := row_c hrow 2 _ rfl
      have m3 := row_c hrow 3 _ rfl
      have m4 := row_c hrow 4 _ rfl
      have m5 := row_c hrow 5 _ rfl
      have m6 := row_c hrow 6 _ rfl
      clear hrow hgb
      go_wp2
      exact bodyPost_ret (v := .tuple #[.agg #[.int .i64 n0, .int .i64 n1, .int .u32 h2, .int .i64 z, .int .i64 n4, .int .i64 n5, .int .u32 h6], .bool true]) (by simp [results, Tryd.results9, go_sem, m0, m1, m2, m3, m4, m5, m6]) rfl ⟨rfl, HBF.out⟩
    · intro ℓ a' w' i o hI ho hi hL hdep K hK
      obtain ⟨x78, x79, x80, x81, x82, x83, x84, x85, x86, x87, x88, x89, x90, x91, x92, x93, x3, rfl, hr⟩ := hI
      have hi7 : i < 18 := hi
      have hcs : i = 0 ∨ i = 1 ∨ i = 2 ∨ i = 3 ∨ i = 4 ∨ i = 5 ∨ i = 6 ∨ i = 7 ∨ i = 8 ∨ i = 9 ∨ i = 10 ∨ i = 11 ∨ i = 12 ∨ i = 13 ∨ i = 14 ∨ i = 15 ∨ i = 16 ∨ i = 17 := by omega
      clear hi hi7
      rcases hcs with rfl | rfl | rfl | rfl | rfl | rfl | rfl | rfl | rfl | rfl | rfl | rfl | rfl | rfl | rfl | rfl | rfl | rfl
      · revert hK
        obtain rfl := Option.some.inj ho
        clear hdep ho
        intro hK
        rw [if_pos (by rfl)]
        try simp only [Act.put, List.setIfInBounds_toArray, List.set_cons_zero, List.set_cons_succ]
        go_simp
        exact hK.out _ _ (fun j => if j = 0 then true else ℓ j) ⟨(.slice (some ⟨g2, 0, none⟩) 4 cap2), x79, x80, x81, x82, x83, x84, x85, x86, x87, x88, x89, x90, x91, x92, x93, x3, (by simp only [Act.put, List.setIfInBounds_toArray, List.set_cons_zero, List.set_cons_succ]), ⟨(fun g => ⟨rfl, (hr.cs g).2.1, (hr.cs g).2.2.1, (hr.cs g).2.2.2.1, (hr.cs g).2.2.2.2.1, (hr.cs g).2.2.2.2.2.1, (hr.cs g).2.2.2.2.2.2.1, (hr.cs g).2.2.2.2.2.2.2.1, (hr.cs g).2.2.2.2.2.2.2.2.1, (hr.cs g).2.2.2.2.2.2.2.2.2.1, (hr.cs g).2.2.2.2.2.2.2.2.2.2.1, (hr.cs g).2.2.2.2.2.2.2.2.2.2.2.1, (hr.cs g).2.2.2.2.2.2.2.2.2.2.2.2.1, (hr.cs g).2.2.2.2.2.2.2.2.2.2.2.2.2.1, (hr.cs g).2.2.2.2.2.2.2.2.2.2.2.2.2.2.1, (hr.cs g).2.2.2.2.2.2.2.2.2.2.2.2.2.2.2.1, trivial⟩), hr.gb, hr.pre, hr.r0, hr.r1, (fun _ => rfl), hr.f1, hr.f2, hr.f3, hr.f4, hr.f5, hr.f6, hr.f7, hr.f8, hr.f9, hr.f10, hr.f11, hr.f12, hr.f13, hr.f14, hr.f15, hr.f17⟩⟩ (if_pos rfl) (fun j hj => if_neg hj)
      · revert hK
        obtain rfl := Option.some.inj ho
        have g0 : ℓ 0 = true := hdep { on := 0, ground := Ground.data } (by simp) rfl
        clear hdep ho
        obtain rfl := hr.f0 g0
        intro hK
        rw [if_pos (by rfl)]
        try simp only [Act.put, List.setIfInBounds_toArray, List.set_cons_zero, List.set_cons_succ]
        go_simp
        exact hK.out _ _ (fun j => if j = 1 then true else ℓ j) ⟨(.slice (some ⟨g2, 0, none⟩) 4 cap2), (.pointer (some ⟨g2, 0, none⟩)), x80, x81, x82, x83, x84, x85, x86, x87, x88, x89, x90, x91, x92, x93, x3, (by simp only [Act.put, List.setIfInBounds_toArray, List.set_cons_zero, List.set_cons_succ]), ⟨(fun g => ⟨(hr.cs g).1, rfl, (hr.cs g).2.2.1, (hr.cs g).2.2.2.1, (hr.cs g).2.2.2.2.1, (hr.cs g).2.2.2.2.2.1, (hr.cs g).2.2.2.2.2.2.1, (hr.cs g).2.2.2.2.2.2.2.1, (hr.cs g).2.2.2.2.2.2.2.2.1, (hr.cs g).2.2.2.2.2.2.2.2.2.1, (hr.cs g).2.2.2.2.2.2.2.2.2.2.1, (hr.cs g).2.2.2.2.2.2.2.2.2.2.2.1, (hr.cs g).2.2.2.2.2.2.2.2.2.2.2.2.1, (hr.cs g).2.2.2.2.2.2.2.2.2.2.2.2.2.1, (hr.cs g).2.2.2.2.2.2.2.2.2.2.2.2.2.2.1, (hr.cs g).2.2.2.2.2.2.2.2.2.2.2.2.2.2.2.1, trivial⟩), hr.gb, hr.pre, hr.r0, hr.r1, hr.f0, (fun _ => rfl), hr.f2, hr.f3, hr.f4, hr.f5, hr.f6, hr.f7, hr.f8, hr.f9, hr.f10, hr.f11, hr.f12, hr.f13, hr.f14, hr.f15, hr.f17⟩⟩ (if_pos rfl) (fun j hj => if_neg hj)
      · revert hK
        obtain rfl := Option.some.inj ho
        have g1 : ℓ 1 = true := hdep { on := 1, ground := Ground.data } (by simp) rfl
        clear hdep ho
        have hl : ℓ 16 = false := by
          cases h7 : ℓ 16
          · rfl
          · have := (hr.cs h7).2.2.1; rw [this] at hL; cases hL
        have hgb : Below (W3).heap.size (W3) w' := hr.pre hl
        obtain rfl := hr.f1 g1
        intro hK
        rw [if_pos (by rfl)]
        try simp only [Act.put, List.setIfInBounds_toArray, List.set_cons_zero, List.set_cons_succ]
        have cc := (hgb.cell (World.block_lt_of_cell? _ _ k0)).trans k0
        go_simp
        exact hK.out _ _ (fun j => if j = 2 then true else ℓ j) ⟨x78, (.pointer (some ⟨g2, 0, none⟩)), (.int .i64 n0), x81, x82, x83, x84, x85, x86, x87, x88, x89, x90, x91, x92, x93, x3, (by simp only [Act.put, List.setIfInBounds_toArray, List.set_cons_zero, List.set_cons_succ]), ⟨(fun g => ⟨(hr.cs g).1, (hr.cs g).2.1, rfl, (hr.cs g).2.2.2.1, (hr.cs g).2.2.2.2.1, (hr.cs g).2.2.2.2.2.1, (hr.cs g).2.2.2.2.2.2.1, (hr.cs g).2.2.2.2.2.2.2.1, (hr.cs g).2.2.2.2.2.2.2.2.1, (hr.cs g).2.2.2.2.2.2.2.2.2.1, (hr.cs g).2.2.2.2.2.2.2.2.2.2.1, (hr.cs g).2.2.2.2.2.2.2.2.2.2.2.1, (hr.cs g).2.2.2.2.2.2.2.2.2.2.2.2.1, (hr.cs g).2.2.2.2.2.2.2.2.2.2.2.2.2.1, (hr.cs g).2.2.2.2.2.2.2.2.2.2.2.2.2.2.1, (hr.cs g).2.2.2.2.2.2.2.2.2.2.2.2.2.2.2.1, trivial⟩), hr.gb, hr.pre, hr.r0, hr.r1, hr.f0, hr.f1, (fun _ => rfl), hr.f3, hr.f4, hr.f5, hr.f6, hr.f7, hr.f8, hr.f9, hr.f10, hr.f11, hr.f12, hr.f13, hr.f14, hr.f15, hr.f17⟩⟩ (if_pos rfl) (fun j hj => if_neg hj)
      · revert hK
        obtain rfl := Option.some.inj ho
        clear hdep ho
        intro hK
        rw [if_pos (by rfl)]
        try simp only [Act.put, List.setIfInBounds_toArray, List.set_cons_zero, List.set_cons_succ]
        go_simp
        exact hK.out _ _ (fun j => if j = 3 then true else ℓ j) ⟨x78, x79, x80, (.slice (some ⟨g2, 0, none⟩) 4 cap2), x82, x83, x84, x85, x86, x87, x88, x89, x90, x91, x92, x93, x3, (by simp only [Act.put, List.setIfInBounds_toArray, List.set_cons_zero, List.set_cons_succ]), ⟨(fun g => ⟨(hr.cs g).1, (hr.cs g).2.1, (hr.cs g).2.2.1, rfl, (hr.cs g).2.2.2.2.1, (hr.cs g).2.2.2.2.2.1, (hr.cs g).2.2.2.2.2.2.1, (hr.cs g).2.2.2.2.2.2.2.1, (hr.cs g).2.2.2.2.2.2.2.2.1, (hr.cs g).2.2.2.2.2.2.2.2.2.1, (hr.cs g).2.2.2.2.2.2.2.2.2.2.1, (hr.cs g).2.2.2.2.2.2.2.2.2.2.2.1, (hr.cs g).2.2.2.2.2.2.2.2.2.2.2.2.1, (hr.cs g).2.2.2.2.2.2.2.2.2.2.2.2.2.1, (hr.cs g).2.2.2.2.2.2.2.2.2.2.2.2.2.2.1, (hr.cs g).2.2.2.2.2.2.2.2.2.2.2.2.2.2.2.1, trivial⟩), hr.gb, hr.pre, hr.r0, hr.r1, hr.f0, hr.f1, hr.f2, (fun _ => rfl), hr.f4, hr.f5, hr.f6, hr.f7, hr.f8, hr.f9, hr.f10, hr.f11, hr.f12, hr.f13, hr.f14, hr.f15, hr.f17⟩⟩ (if_pos rfl) (fun j hj => if_neg hj)
      · revert hK
        obtain rfl := Option.some.inj ho
        have g3 : ℓ 3 = true := hdep { on := 3, ground := Ground.data } (by simp) rfl
        clear hdep ho
        obtain rfl := hr.f3 g3
        intro hK
        rw [if_pos (by rfl)]
        try simp only [Act.put, List.setIfInBounds_toArray, List.set_cons_zero, List.set_cons_succ]
        go_simp
        exact hK.out _ _ (fun j => if j = 4 then true else ℓ j) ⟨x78, x79, x80, (.slice (some ⟨g2, 0, none⟩) 4 cap2), (.pointer (some ⟨g2, 1, none⟩)), x83, x84, x85, x86, x87, x88, x89, x90, x91, x92, x93, x3, (by simp only [Act.put, List.setIfInBounds_toArray, List.set_cons_zero, List.set_cons_succ]), ⟨(fun g => ⟨(hr.cs g).1, (hr.cs g).2.1, (hr.cs g).2.2.1, (hr.cs g).2.2.2.1, rfl, (hr.cs g).2.2.2.2.2.1, (hr.cs g).2.2.2.2.2.2.1, (hr.cs g).2.2.2.2.2.2.2.1, (hr.cs g).2.2.2.2.2.2.2.2.1, (hr.cs g).2.2.2.2.2.2.2.2.2.1, (hr.cs g).2.2.2.2.2.2.2.2.2.2.1, (hr.cs g).2.2.2.2.2.2.2.2.2.2.2.1, (hr.cs g).2.2.2.2.2.2.2.2.2.2.2.2.1, (hr.cs g).2.2.2.2.2.2.2.2.2.2.2.2.2.1, (hr.cs g).2.2.2.2.2.2.2.2.2.2.2.2.2.2.1, (hr.cs g).2.2.2.2.2.2.2.2.2.2.2.2.2.2.2.1, trivial⟩), hr.gb, hr.pre, hr.r0, hr.r1, hr.f0, hr.f1, hr.f2, hr.f3, (fun _ => rfl), hr.f5, hr.f6, hr.f7, hr.f8, hr.f9, hr.f10, hr.f11, hr.f12, hr.f13, hr.f14, hr.f15, hr.f17⟩⟩ (if_pos rfl) (fun j hj => if_neg hj)
      · revert hK
        obtain rfl := Option.some.inj ho
        have g4 : ℓ 4 = true := hdep { on := 4, ground := Ground.data } (by simp) rfl
        clear hdep ho
        have hl : ℓ 16 = false := by
          cases h7 : ℓ 16
          · rfl
          · have := (hr.cs h7).2.2.2.2.2.1; rw [this] at hL; cases hL
        have hgb : Below (W3).heap.size (W3) w' := hr.pre hl
        obtain rfl := hr.f4 g4
        intro hK
        rw [if_pos (by rfl)]
        try simp only [Act.put, List.setIfInBounds_toArray, List.set_cons_zero, List.set_cons_succ]
        have cc := (hgb.cell (World.block_lt_of_cell? _ _ k1)).trans k1
        go_simp
        exact hK.out _ _ (fun j => if j = 5 then true else ℓ j) ⟨x78, x79, x80, x81, (.pointer (some ⟨g2, 1, none⟩)), (.int .i64 n1), x84, x85, x86, x87, x88, x89, x90, x91, x92, x93, x3, (by simp only [Act.put, List.setIfInBounds_toArray, List.set_cons_zero, List.set_cons_succ]), ⟨(fun g => ⟨(hr.cs g).1, (hr.cs g).2.1, (hr.cs g).2.2.1, (hr.cs g).2.2.2.1, (hr.cs g).2.2.2.2.1, rfl, (hr.cs g).2.2.2.2.2.2.1, (hr.cs g).2.2.2.2.2.2.2.1, (hr.cs g).2.2.2.2.2.2.2.2.1, (hr.cs g).2.2.2.2.2.2.2.2.2.1, (hr.cs g).2.2.2.2.2.2.2.2.2.2.1, (hr.cs g).2.2.2.2.2.2.2.2.2.2.2.1, (hr.cs g).2.2.2.2.2.2.2.2.2.2.2.2.1, (hr.cs g).2.2.2.2.2.2.2.2.2.2.2.2.2.1, (hr.cs g).2.2.2.2.2.2.2.2.2.2.2.2.2.2.1, (hr.cs g).2.2.2.2.2.2.2.2.2.2.2.2.2.2.2.1, trivial⟩), hr.gb, hr.pre, hr.r0, hr.r1, hr.f0, hr.f1, hr.f2, hr.f3, hr.f4, (fun _ => rfl), hr.f6, hr.f7, hr.f8, hr.f9, hr.f10, hr.f11, hr.f12, hr.f13, hr.f14, hr.f15, hr.f17⟩⟩ (if_pos rfl) (fun j hj => if_neg hj)
      · revert hK
        obtain rfl := Option.some.inj ho
        clear hdep ho
        intro hK
        rw [if_pos (by rfl)]
        try simp only [Act.put, List.setIfInBounds_toArray, List.set_cons_zero, List.set_cons_succ]
        go_simp
        exact hK.out _ _ (fun j => if j = 6 then true else ℓ j) ⟨x78, x79, x80, x81, x82, x83, (.int .u32 h2), x85, x86, x87, x88, x89, x90, x91, x92, x93, x3, (by simp only [Act.put, List.setIfInBounds_toArray, List.set_cons_zero, List.set_cons_succ]), ⟨(fun g => ⟨(hr.cs g).1, (hr.cs g).2.1, (hr.cs g).2.2.1, (hr.cs g).2.2.2.1, (hr.cs g).2.2.2.2.1, (hr.cs g).2.2.2.2.2.1, rfl, (hr.cs g).2.2.2.2.2.2.2.1, (hr.cs g).2.2.2.2.2.2.2.2.1, (hr.cs g).2.2.2.2.2.2.2.2.2.1, (hr.cs g).2.2.2.2.2.2.2.2.2.2.1, (hr.cs g).2.2.2.2.2.2.2.2.2.2.2.1, (hr.cs g).2.2.2.2.2.2.2.2.2.2.2.2.1, (hr.cs g).2.2.2.2.2.2.2.2.2.2.2.2.2.1, (hr.cs g).2.2.2.2.2.2.2.2.2.2.2.2.2.2.1, (hr.cs g).2.2.2.2.2.2.2.2.2.2.2.2.2.2.2.1, trivial⟩), hr.gb, hr.pre, hr.r0, hr.r1, hr.f0, hr.f1, hr.f2, hr.f3, hr.f4, hr.f5, (fun _ => rfl), hr.f7, hr.f8, hr.f9, hr.f10, hr.f11, hr.f12, hr.f13, hr.f14, hr.f15, hr.f17⟩⟩ (if_pos rfl) (fun j hj => if_neg hj)
      · revert hK
        obtain rfl := Option.some.inj ho
        clear hdep ho
        intro hK
        rw [if_pos (by rfl)]
        try simp only [Act.put, List.setIfInBounds_toArray, List.set_cons_zero, List.set_cons_succ]
        go_simp
        exact hK.out _ _ (fun j => if j = 7 then true else ℓ j) ⟨x78, x79, x80, x81, x82, x83, x84, (.int .i64 z), x86, x87, x88, x89, x90, x91, x92, x93, x3, (by simp only [Act.put, List.setIfInBounds_toArray, List.set_cons_zero, List.set_cons_succ]), ⟨(fun g => ⟨(hr.cs g).1, (hr.cs g).2.1, (hr.cs g).2.2.1, (hr.cs g).2.2.2.1, (hr.cs g).2.2.2.2.1, (hr.cs g).2.2.2.2.2.1, (hr.cs g).2.2.2.2.2.2.1, rfl, (hr.cs g).2.2.2.2.2.2.2.2.1, (hr.cs g).2.2.2.2.2.2.2.2.2.1, (hr.cs g).2.2.2.2.2.2.2.2.2.2.1, (hr.cs g).2.2.2.2.2.2.2.2.2.2.2.1, (hr.cs g).2.2.2.2.2.2.2.2.2.2.2.2.1, (hr.cs g).2.2.2.2.2.2.2.2.2.2.2.2.2.1, (hr.cs g).2.2.2.2.2.2.2.2.2.2.2.2.2.2.1, (hr.cs g).2.2.2.2.2.2.2.2.2.2.2.2.2.2.2.1, trivial⟩), hr.gb, hr.pre, hr.r0, hr.r1, hr.f0, hr.f1, hr.f2, hr.f3, hr.f4, hr.f5, hr.f6, (fun _ => rfl), hr.f8, hr.f9, hr.f10, hr.f11, hr.f12, hr.f13, hr.f14, hr.f15, hr.f17⟩⟩ (if_pos rfl) (fun j hj => if_neg hj)
      · revert hK
        obtain rfl := Option.some.inj ho
        clear hdep ho
        intro hK
        rw [if_pos (by rfl)]
        try simp only [Act.put, List.setIfInBounds_toArray, List.set_cons_zero, List.set_cons_succ]
        go_simp
        exact hK.out _ _ (fun j => if j = 8 then true else ℓ j) ⟨x78, x79, x80, x81, x82, x83, x84, x85, (.slice (some ⟨g2, 0, none⟩) 4 cap2), x87, x88, x89, x90, x91, x92, x93, x3, (by simp only [Act.put, List.setIfInBounds_toArray, List.set_cons_zero, List.set_cons_succ]), ⟨(fun g => ⟨(hr.cs g).1, (hr.cs g).2.1, (hr.cs g).2.2.1, (hr.cs g).2.2.2.1, (hr.cs g).2.2.2.2.1, (hr.cs g).2.2.2.2.2.1, (hr.cs g).2.2.2.2.2.2.1, (hr.cs g).2.2.2.2.2.2.2.1, rfl, (hr.cs g).2.2.2.2.2.2.2.2.2.1, (hr.cs g).2.2.2.2.2.2.2.2.2.2.1, (hr.cs g).2.2.2.2.2.2.2.2.2.2.2.1, (hr.cs g).2.2.2.2.2.2.2.2.2.2.2.2.1, (hr.cs g).2.2.2.2.2.2.2.2.2.2.2.2.2.1, (hr.cs g).2.2.2.2.2.2.2.2.2.2.2.2.2.2.1, (hr.cs g).2.2.2.2.2.2.2.2.2.2.2.2.2.2.2.1, trivial⟩), hr.gb, hr.pre, hr.r0, hr.r1, hr.f0, hr.f1, hr.f2, hr.f3, hr.f4, hr.f5, hr.f6, hr.f7, (fun _ => rfl), hr.f9, hr.f10, hr.f11, hr.f12, hr.f13, hr.f14, hr.f15, hr.f17⟩⟩ (if_pos rfl) (fun j hj => if_neg hj)
      · revert hK
        obtain rfl := Option.some.inj ho
        have g8 : ℓ 8 = true := hdep { on := 8, ground := Ground.data } (by simp) rfl
        clear hdep ho
        obtain rfl := hr.f8 g8
        intro hK
        rw [if_pos (by rfl)]
        try simp only [Act.put, List.setIfInBounds_toArray, List.set_cons_zero, List.set_cons_succ]
        go_simp
        exact hK.out _ _ (fun j => if j = 9 then true else ℓ j) ⟨x78, x79, x80, x81, x82, x83, x84, x85, (.slice (some ⟨g2, 0, none⟩) 4 cap2), (.pointer (some ⟨g2, 2, none⟩)), x88, x89, x90, x91, x92, x93, x3, (by simp only [Act.put, List.setIfInBounds_toArray, List.set_cons_zero, List.set_cons_succ]), ⟨(fun g => ⟨(hr.cs g).1, (hr.cs g).2.1, (hr.cs g).2.2.1, (hr.cs g).2.2.2.1, (hr.cs g).2.2.2.2.1, (hr.cs g).2.2.2.2.2.1, (hr.cs g).2.2.2.2.2.2.1, (hr.cs g).2.2.2.2.2.2.2.1, (hr.cs g).2.2.2.2.2.2.2.2.1, rfl, (hr.cs g).2.2.2.2.2.2.2.2.2.2.1, (hr.cs g).2.2.2.2.2.2.2.2.2.2.2.1, (hr.cs g).2.2.2.2.2.2.2.2.2.2.2.2.1, (hr.cs g).2.2.2.2.2.2.2.2.2.2.2.2.2.1, (hr.cs g).2.2.2.2.2.2.2.2.2.2.2.2.2.2.1, (hr.cs g).2.2.2.2.2.2.2.2.2.2.2.2.2.2.2.1, trivial⟩), hr.gb, hr.pre, hr.r0, hr.r1, hr.f0, hr.f1, hr.f2, hr.f3, hr.f4, hr.f5, hr.f6, hr.f7, hr.f8, (fun _ => rfl), hr.f10, hr.f11, hr.f12, hr.f13, hr.f14, hr.f15, hr.f17⟩⟩ (if_pos rfl) (fun j hj => if_neg hj)
      · revert hK
        obtain rfl := Option.some.inj ho
        have g9 : ℓ 9 = true := hdep { on := 9, ground := Ground.data } (by simp) rfl
        clear hdep ho
        have hl : ℓ 16 = false := by
          cases h7 : ℓ 16
          · rfl
          · have := (hr.cs h7).2.2.2.2.2.2.2.2.2.2.1; rw [this] at hL; cases hL
        have hgb : Below (W3).heap.size (W3) w' := hr.pre hl
        obtain rfl := hr.f9 g9
        intro hK
        rw [if_pos (by rfl)]
        try simp only [Act.put, List.setIfInBounds_toArray, List.set_cons_zero, List.set_cons_succ]
        have cc := (hgb.cell (World.block_lt_of_cell? _ _ k2)).trans k2
        go_simp
        exact hK.out _ _ (fun j => if j = 10 then true else ℓ j) ⟨x78, x79, x80, x81, x82, x83, x84, x85, x86, (.pointer (some ⟨g2, 2, none⟩)), (.int .i64 n4), x89, x90, x91, x92, x93, x3, (by simp only [Act.put, List.setIfInBounds_toArray, List.set_cons_zero, List.set_cons_succ]), ⟨(fun g => ⟨(hr.cs g).1, (hr.cs g).2.1, (hr.cs g).2.2.1, (hr.cs g).2.2.2.1, (hr.cs g).2.2.2.2.1, (hr.cs g).2.2.2.2.2.1, (hr.cs g).2.2.2.2.2.2.1, (hr.cs g).2.2.2.2.2.2.2.1, (hr.cs g).2.2.2.2.2.2.2.2.1, (hr.cs g).2.2.2.2.2.2.2.2.2.1, rfl, (hr.cs g).2.2.2.2.2.2.2.2.2.2.2.1, (hr.cs g).2.2.2.2.2.2.2.2.2.2.2.2.1, (hr.cs g).2.2.2.2.2.2.2.2.2.2.2.2.2.1, (hr.cs g).2.2.2.2.2.2.2.2.2.2.2.2.2.2.1, (hr.cs g).2.2.2.2.2.2.2.2.2.2.2.2.2.2.2.1, trivial⟩), hr.gb, hr.pre, hr.r0, hr.r1, hr.f0, hr.f1, hr.f2, hr.f3, hr.f4, hr.f5, hr.f6, hr.f7, hr.f8, hr.f9, (fun _ => rfl), hr.f11, hr.f12, hr.f13, hr.f14, hr.f15, hr.f17⟩⟩ (if_pos rfl) (fun j hj => if_neg hj)
      · revert hK
        obtain rfl := Option.some.inj ho
        clear hdep ho
        intro hK
        rw [if_pos (by rfl)]
        try simp only [Act.put, List.setIfInBounds_toArray, List.set_cons_zero, List.set_cons_succ]
        go_simp
        exact hK.out _ _ (fun j => if j = 11 then true else ℓ j) ⟨x78, x79, x80, x81, x82, x83, x84, x85, x86, x87, x88, (.slice (some ⟨g2, 0, none⟩) 4 cap2), x90, x91, x92, x93, x3, (by simp only [Act.put, List.setIfInBounds_toArray, List.set_cons_zero, List.set_cons_succ]), ⟨(fun g => ⟨(hr.cs g).1, (hr.cs g).2.1, (hr.cs g).2.2.1, (hr.cs g).2.2.2.1, (hr.cs g).2.2.2.2.1, (hr.cs g).2.2.2.2.2.1, (hr.cs g).2.2.2.2.2.2.1, (hr.cs g).2.2.2.2.2.2.2.1, (hr.cs g).2.2.2.2.2.2.2.2.1, (hr.cs g).2.2.2.2.2.2.2.2.2.1, (hr.cs g).2.2.2.2.2.2.2.2.2.2.1, rfl, (hr.cs g).2.2.2.2.2.2.2.2.2.2.2.2.1, (hr.cs g).2.2.2.2.2.2.2.2.2.2.2.2.2.1, (hr.cs g).2.2.2.2.2.2.2.2.2.2.2.2.2.2.1, (hr.cs g).2.2.2.2.2.2.2.2.2.2.2.2.2.2.2.1, trivial⟩), hr.gb, hr.pre, hr.r0, hr.r1, hr.f0, hr.f1, hr.f2, hr.f3, hr.f4, hr.f5, hr.f6, hr.f7, hr.f8, hr.f9, hr.f10, (fun _ => rfl), hr.f12, hr.f13, hr.f14, hr.f15, hr.f17⟩⟩ (if_pos rfl) (fun j hj => if_neg hj)
      · revert hK
        obtain rfl := Option.some.inj ho
        have g11 : ℓ 11 = true := hdep { on := 11, ground := Ground.data } (by simp) rfl
        clear hdep ho
        obtain rfl := hr.f11 g11
        intro hK
        rw [if_pos (by rfl)]
        try simp only [Act.put, List.setIfInBounds_toArray, List.set_cons_zero, List.set_cons_succ]
        go_simp
        exact hK.out _ _ (fun j => if j = 12 then true else ℓ j) ⟨x78, x79, x80, x81, x82, x83, x84, x85, x86, x87, x88, (.slice (some ⟨g2, 0, none⟩) 4 cap2), (.pointer (some ⟨g2, 3, none⟩)), x91, x92, x93, x3, (by simp only [Act.put, List.setIfInBounds_toArray, List.set_cons_zero, List.set_cons_succ]), ⟨(fun g => ⟨(hr.cs g).1, (hr.cs g).2.1, (hr.cs g).2.2.1, (hr.cs g).2.2.2.1, (hr.cs g).2.2.2.2.1, (hr.cs g).2.2.2.2.2.1, (hr.cs g).2.2.2.2.2.2.1, (hr.cs g).2.2.2.2.2.2.2.1, (hr.cs g).2.2.2.2.2.2.2.2.1, (hr.cs g).2.2.2.2.2.2.2.2.2.1, (hr.cs g).2.2.2.2.2.2.2.2.2.2.1, (hr.cs g).2.2.2.2.2.2.2.2.2.2.2.1, rfl, (hr.cs g).2.2.2.2.2.2.2.2.2.2.2.2.2.1, (hr.cs g).2.2.2.2.2.2.2.2.2.2.2.2.2.2.1, (hr.cs g).2.2.2.2.2.2.2.2.2.2.2.2.2.2.2.1, trivial⟩), hr.gb, hr.pre, hr.r0, hr.r1, hr.f0, hr.f1, hr.f2, hr.f3, hr.f4, hr.f5, hr.f6, hr.f7, hr.f8, hr.f9, hr.f10, hr.f11, (fun _ => rfl), hr.f13, hr.f14, hr.f15, hr.f17⟩⟩ (if_pos rfl) (fun j hj => if_neg hj)
      · revert hK
        obtain rfl := Option.some.inj ho
        have g12 : ℓ 12 = true := hdep { on := 12, ground := Ground.data } (by simp) rfl
        clear hdep ho
        have hl : ℓ 16 = false := by
          cases h7 : ℓ 16
          · rfl
          · have := (hr.cs h7).2.2.2.2.2.2.2.2.2.2.2.2.2.1; rw [this] at hL; cases hL
        have hgb : Below (W3).heap.size (W3) w' := hr.pre hl
        obtain rfl := hr.f12 g12
        intro hK
        rw [if_pos (by rfl)]
        try simp only [Act.put, List.setIfInBounds_toArray, List.set_cons_zero, List.set_cons_succ]
        have cc := (hgb.cell (World.block_lt_of_cell? _ _ k3)).trans k3
        go_simp
        exact hK.out _ _ (fun j => if j = 13 then true else ℓ j) ⟨x78, x79, x80, x81, x82, x83, x84, x85, x86, x87, x88, x89, (.pointer (some ⟨g2, 3, none⟩)), (.int .i64 n5), x92, x93, x3, (by simp only [Act.put, List.setIfInBounds_toArray, List.set_cons_zero, List.set_cons_succ]), ⟨(fun g => ⟨(hr.cs g).1, (hr.cs g).2.1, (hr.cs g).2.2.1, (hr.cs g).2.2.2.1, (hr.cs g).2.2.2.2.1, (hr.cs g).2.2.2.2.2.1, (hr.cs g).2.2.2.2.2.2.1, (hr.cs g).2.2.2.2.2.2.2.1, (hr.cs g).2.2.2.2.2.2.2.2.1, (hr.cs g).2.2.2.2.2.2.2.2.2.1, (hr.cs g).2.2.2.2.2.2.2.2.2.2.1, (hr.cs g).2.2.2.2.2.2.2.2.2.2.2.1, (hr.cs g).2.2.2.2.2.2.2.2.2.2.2.2.1, rfl, (hr.cs g).2.2.2.2.2.2.2.2.2.2.2.2.2.2.1, (hr.cs g).2.2.2.2.2.2.2.2.2.2.2.2.2.2.2.1, trivial⟩), hr.gb, hr.pre, hr.r0, hr.r1, hr.f0, hr.f1, hr.f2, hr.f3, hr.f4, hr.f5, hr.f6, hr.f7, hr.f8, hr.f9, hr.f10, hr.f11, hr.f12, (fun _ => rfl), hr.f14, hr.f15, hr.f17⟩⟩ (if_pos rfl) (fun j hj => if_neg hj)
      · revert hK
        obtain rfl := Option.some.inj ho
        clear hdep ho
        intro hK
        rw [if_pos (by rfl)]
        try simp only [Act.put, List.setIfInBounds_toArray, List.set_cons_zero, List.set_cons_succ]
        go_simp
        exact hK.out _ _ (fun j => if j = 14 then true else ℓ j) ⟨x78, x79, x80, x81, x82, x83, x84, x85, x86, x87, x88, x89, x90, x91, (.int .u32 h6), x93, x3, (by simp only [Act.put, List.setIfInBounds_toArray, List.set_cons_zero, List.set_cons_succ]), ⟨(fun g => ⟨(hr.cs g).1, (hr.cs g).2.1, (hr.cs g).2.2.1, (hr.cs g).2.2.2.1, (hr.cs g).2.2.2.2.1, (hr.cs g).2.2.2.2.2.1, (hr.cs g).2.2.2.2.2.2.1, (hr.cs g).2.2.2.2.2.2.2.1, (hr.cs g).2.2.2.2.2.2.2.2.1, (hr.cs g).2.2.2.2.2.2.2.2.2.1, (hr.cs g).2.2.2.2.2.2.2.2.2.2.1, (hr.cs g).2.2.2.2.2.2.2.2.2.2.2.1, (hr.cs g).2.2.2.2.2.2.2.2.2.2.2.2.1, (hr.cs g).2.2.2.2.2.2.2.2.2.2.2.2.2.1, rfl, (hr.cs g).2.2.2.2.2.2.2.2.2.2.2.2.2.2.2.1, trivial⟩), hr.gb, hr.pre, hr.r0, hr.r1, hr.f0, hr.f1, hr.f2, hr.f3, hr.f4, hr.f5, hr.f6, hr.f7, hr.f8, hr.f9, hr.f10, hr.f11, hr.f12, hr.f13, (fun _ => rfl), hr.f15, hr.f17⟩⟩ (if_pos rfl) (fun j hj => if_neg hj)
      · revert hK
        obtain rfl := Option.some.inj ho
        have g2 : ℓ 2 = true := hdep { on := 2, ground := Ground.data } (by simp) rfl
        have g5 : ℓ 5 = true := hdep { on := 5, ground := Ground.data } (by simp) rfl
        have g6 : ℓ 6 = true := hdep { on := 6, ground := Ground.data } (by simp) rfl
        have g7 : ℓ 7 = true := hdep { on := 7, ground := Ground.data } (by simp) rfl
        have g10 : ℓ 10 = true := hdep { on := 10, ground := Ground.data } (by simp) rfl
        have g13 : ℓ 13 = true := hdep { on := 13, ground := Ground.data } (by simp) rfl
        have g14 : ℓ 14 = true := hdep { on := 14, ground := Ground.data } (by simp) rfl
        clear hdep ho
        obtain rfl := hr.f2 g2
        obtain rfl := hr.f5 g5
        obtain rfl := hr.f6 g6
        obtain rfl := hr.f7 g7
        obtain rfl := hr.f10 g10
        obtain rfl := hr.f13 g13
        obtain rfl := hr.f14 g14
        intro hK
        rw [if_pos (by rfl)]
        try simp only [Act.put, List.setIfInBounds_toArray, List.set_cons_zero, List.set_cons_succ]
        go_simp
        exact hK.out _ _ (fun j => if j = 15 then true else ℓ j) ⟨x78, x79, (.int .i64 n0), x81, x82, (.int .i64 n1), (.int .u32 h2), (.int .i64 z), x86, x87, (.int .i64 n4), x89, x90, (.int .i64 n5), (.int .u32 h6), (.agg #[.int .i64 n0, .int .i64 n1, .int .u32 h2, .int .i64 z, .int .i64 n4, .int .i64 n5, .int .u32 h6]), x3, (by simp only [Act.put, List.setIfInBounds_toArray, List.set_cons_zero, List.set_cons_succ]), ⟨(fun g => ⟨(hr.cs g).1, (hr.cs g).2.1, (hr.cs g).2.2.1, (hr.cs g).2.2.2.1, (hr.cs g).2.2.2.2.1, (hr.cs g).2.2.2.2.2.1, (hr.cs g).2.2.2.2.2.2.1, (hr.cs g).2.2.2.2.2.2.2.1, (hr.cs g).2.2.2.2.2.2.2.2.1, (hr.cs g).2.2.2.2.2.2.2.2.2.1, (hr.cs g).2.2.2.2.2.2.2.2.2.2.1, (hr.cs g).2.2.2.2.2.2.2.2.2.2.2.1, (hr.cs g).2.2.2.2.2.2.2.2.2.2.2.2.1, (hr.cs g).2.2.2.2.2.2.2.2.2.2.2.2.2.1, (hr.cs g).2.2.2.2.2.2.2.2.2.2.2.2.2.2.1, rfl, trivial⟩), hr.gb, hr.pre, hr.r0, hr.r1, hr.f0, hr.f1, hr.f2, hr.f3, hr.f4, hr.f5, hr.f6, hr.f7, hr.f8, hr.f9, hr.f10, hr.f11, hr.f12, hr.f13, hr.f14, (fun _ => rfl), hr.f17⟩⟩ (if_pos rfl) (fun j hj => if_neg hj)
      · replace ho : some ({ dst := none, op := .store 26 (.tmp 2) (.tmp 93), type := 0, pos := "l22_report.go:54", after := #[{ on := 15, ground := Ground.data }, { on := 0, ground := Ground.phase }, { on := 1, ground := Ground.phase }, { on := 2, ground := Ground.phase }, { on := 3, ground := Ground.phase }, { on := 4, ground := Ground.phase }, { on := 5, ground := Ground.phase }, { on := 6, ground := Ground.phase }, { on := 7, ground := Ground.phase }, { on := 8, ground := Ground.phase }, { on := 9, ground := Ground.phase }, { on := 10, ground := Ground.phase }, { on := 11, ground := Ground.phase }, { on := 12, ground := Ground.phase }, { on := 13, ground := Ground.phase }, { on := 14, ground := Ground.phase }, { on := 15, ground := Ground.phase }], guard := none } : Oper) = some o := ho
        revert hK
        obtain rfl := Option.some.inj ho
        have g15 : ℓ 15 = true := hdep { on := 15, ground := Ground.data } (by simp) rfl
        have g0 : ℓ 0 = true := hdep { on := 0, ground := Ground.phase } (by simp) rfl
        have g1 : ℓ 1 = true := hdep { on := 1, ground := Ground.phase } (by simp) rfl
        have g2 : ℓ 2 = true := hdep { on := 2, ground := Ground.phase } (by simp) rfl
        have g3 : ℓ 3 = true := hdep { on := 3, ground := Ground.phase } (by simp) rfl
        have g4 : ℓ 4 = true := hdep { on := 4, ground := Ground.phase } (by simp) rfl
        have g5 : ℓ 5 = true := hdep { on := 5, ground := Ground.phase } (by simp) rfl
        have g6 : ℓ 6 = true := hdep { on := 6, ground := Ground.phase } (by simp) rfl
        have g7 : ℓ 7 = true := hdep { on := 7, ground := Ground.phase } (by simp) rfl
        have g8 : ℓ 8 = true := hdep { on := 8, ground := Ground.phase } (by simp) rfl
        have g9 : ℓ 9 = true := hdep { on := 9, ground := Ground.phase } (by simp) rfl
        have g10 : ℓ 10 = true := hdep { on := 10, ground := Ground.phase } (by simp) rfl
        have g11 : ℓ 11 = true := hdep { on := 11, ground := Ground.phase } (by simp) rfl
        have g12 : ℓ 12 = true := hdep { on := 12, ground := Ground.phase } (by simp) rfl
        have g13 : ℓ 13 = true := hdep { on := 13, ground := Ground.phase } (by simp) rfl
        have g14 : ℓ 14 = true := hdep { on := 14, ground := Ground.phase } (by simp) rfl
        clear hdep ho
        obtain rfl := hr.f15 g15
        intro hK
        rw [if_pos (by rfl)]
        try simp only [Act.put, List.setIfInBounds_toArray, List.set_cons_zero, List.set_cons_succ]
        refine wp_store_row (P := Tryd.prog) 26 (.tmp 2) (.tmp 93) rfl (w.heap.size) (#[.int .i64 n0, .int .i64 n1, .int .u32 h2, .int .i64 z, .int .i64 n4, .int .i64 n5, .int .u32 h6]) rfl rfl 26 (#[.int .i64 0, .int .i64 0, .int .u32 0, .int .i64 0, .int .i64 0, .int .i64 0, .int .u32 0]) (hr.r0 hL) (by kernel_rfl) rfl (by simp [Value.oneCell']) ?_
        exact hK.out _ _ (fun j => if j = 16 then true else ℓ j) ⟨x78, x79, x80, x81, x82, x83, x84, x85, x86, x87, x88, x89, x90, x91, x92, (.agg #[.int .i64 n0, .int .i64 n1, .int .u32 h2, .int .i64 z, .int .i64 n4, .int .i64 n5, .int .u32 h6]), x3, (by simp only [Act.put, List.setIfInBounds_toArray, List.set_cons_zero, List.set_cons_succ]), ⟨(fun _ => ⟨g0, g1, g2, g3, g4, g5, g6, g7, g8, g9, g10, g11, g12, g13, g14, g15, trivial⟩), below_setRow hr.gb (Nat.le_refl _) _, (fun g => by cases g), (fun g => by cases g), (fun _ => setRow_heap _ _ _ _ _ _ (hr.r0 hL)), hr.f0, hr.f1, hr.f2, hr.f3, hr.f4, hr.f5, hr.f6, hr.f7, hr.f8, hr.f9, hr.f10, hr.f11, hr.f12, hr.f13, hr.f14, hr.f15, hr.f17⟩⟩ (if_pos rfl) (fun j hj => if_neg hj)
      · revert hK
        obtain rfl := Option.some.inj ho
        clear hdep ho
        intro hK
        rw [if_pos (by rfl)]
        try simp only [Act.put, List.setIfInBounds_toArray, List.set_cons_zero, List.set_cons_succ]
        go_simp
        exact hK.out _ _ (fun j => if j = 17 then true else ℓ j) ⟨x78, x79, x80, x81, x82, x83, x84, x85, x86, x87, x88, x89, x90, x91, x92, x93, (.bool true), (by simp only [Act.put, List.setIfInBounds_toArray, List.set_cons_zero, List.set_cons_succ]), ⟨hr.cs, hr.gb, hr.pre, hr.r0, hr.r1, hr.f0, hr.f1, hr.f2, hr.f3, hr.f4, hr.f5, hr.f6, hr.f7, hr.f8, hr.f9, hr.f10, hr.f11, hr.f12, hr.f13, hr.f14, hr.f15, (fun _ => rfl)⟩⟩ (if_pos rfl) (fun j hj => if_neg hj)
    · rintro a' w' ℓ ℓ' hℓ hI
      rw [← show ℓ = ℓ' from funext hℓ]
      exact hI
  · intro ℓ a' w' i o hI ho hi hL hdep K hK
    obtain ⟨V, Q, x23, x24, x25, x26, x27, x28, x29, x30, x31, x32, x33, x34, x35, x36, x22, x37, x38, x5, x6, rfl, hr⟩ := hI
    have hi7 : i < 19 := hi
    have hcs : i = 0 ∨ i = 1 ∨ i = 2 ∨ i = 3 ∨ i = 4 ∨ i = 5 ∨ i = 6 ∨ i = 7 ∨ i = 8 ∨ i = 9 ∨ i = 10 ∨ i = 11 ∨ i = 12 ∨ i = 13 ∨ i = 14 ∨ i = 15 ∨ i = 16 ∨ i = 17 ∨ i = 18 := by omega
    clear hi hi7
    rcases hcs with rfl | rfl | rfl | rfl | rfl | rfl | rfl | rfl | rfl | rfl | rfl | rfl | rfl | rfl | rfl | rfl | rfl | rfl | rfl
    · revert hK
      obtain rfl := Option.some.inj ho
      clear hdep ho
      have hgb := hr.gb
      intro hK
      rw [if_pos (by rfl)]
      try simp only [Act.put, List.setIfInBounds_toArray, List.set_cons_zero, List.set_cons_succ]
      go_simp
      exact hK.out _ _ (fun j => if j = 0 then true else ℓ j) ⟨V, Q, (.slice (some ⟨g, off, none⟩) 7 cap), x24, x25, x26, x27, x28, x29, x30, x31, x32, x33, x34, x35, x36, x22, x37, x38, x5, x6, (by simp only [Act.put, List.setIfInBounds_toArray, List.set_cons_zero, List.set_cons_succ]), ⟨hr.gb, hr.gp, hr.c14, hr.c15, hr.c16, hr.c17, hr.c18, (fun _ => rfl), hr.f1, hr.f2, hr.f3, hr.f4, hr.f5, hr.f6, hr.f7, hr.f8, hr.f9, hr.f10, hr.f11, hr.f12, hr.f13, hr.f14, hr.f15, hr.f16, hr.f17, hr.f18⟩⟩ (if_pos rfl) (fun j hj => if_neg hj)
    · revert hK
      obtain rfl := Option.some.inj ho
      have g0 : ℓ 0 = true := hdep { on := 0, ground := Ground.data } (by simp) rfl
      clear hdep ho
      have hgb := hr.gb
      obtain rfl := hr.f0 g0
      intro hK
      rw [if_pos (by rfl)]
      try simp only [Act.put, List.setIfInBounds_toArray, List.set_cons_zero, List.set_cons_succ]
      go_simp
      exact hK.out _ _ (fun j => if j = 1 then true else ℓ j) ⟨V, Q, (.slice (some ⟨g, off, none⟩) 7 cap), (.pointer (some ⟨g, off, none⟩)), x25, x26, x27, x28, x29, x30, x31, x32, x33, x34, x35, x36, x22, x37, x38, x5, x6, (by simp only [Act.put, List.setIfInBounds_toArray, List.set_cons_zero, List.set_cons_succ]), ⟨hr.gb, hr.gp, hr.c14, hr.c15, hr.c16, hr.c17, hr.c18, hr.f0, (fun _ => rfl), hr.f2, hr.f3, hr.f4, hr.f5, hr.f6, hr.f7, hr.f8, hr.f9, hr.f10, hr.f11, hr.f12, hr.f13, hr.f14, hr.f15, hr.f16, hr.f17, hr.f18⟩⟩ (if_pos rfl) (fun j hj => if_neg hj)
    · revert hK
      obtain rfl := Option.some.inj ho
      have g1 : ℓ 1 = true := hdep { on := 1, ground := Ground.data } (by simp) rfl
      clear hdep ho
      have hgb := hr.gb
      obtain rfl := hr.f1 g1
      intro hK
      rw [if_pos (by rfl)]
      try simp only [Act.put, List.setIfInBounds_toArray, List.set_cons_zero, List.set_cons_succ]
      have cc := (hgb.cell (World.block_lt_of_cell? _ _ e0)).trans e0
      go_simp
      exact hK.out _ _ (fun j => if j = 2 then true else ℓ j) ⟨V, Q, x23, (.pointer (some ⟨g, off, none⟩)), (.string y0), x26, x27, x28, x29, x30, x31, x32, x33, x34, x35, x36, x22, x37, x38, x5, x6, (by simp only [Act.put, List.setIfInBounds_toArray, List.set_cons_zero, List.set_cons_succ]), ⟨hr.gb, hr.gp, hr.c14, hr.c15, hr.c16, hr.c17, hr.c18, hr.f0, hr.f1, (fun _ => rfl), hr.f3, hr.f4, hr.f5, hr.f6, hr.f7, hr.f8, hr.f9, hr.f10, hr.f11, hr.f12, hr.f13, hr.f14, hr.f15, hr.f16, hr.f17, hr.f18⟩⟩ (if_pos rfl) (fun j hj => if_neg hj)
    · revert hK
      obtain rfl := Option.some.inj ho
      clear hdep ho
      have hgb := hr.gb
      intro hK
      rw [if_pos (by rfl)]
      try simp only [Act.put, List.setIfInBounds_toArray, List.set_cons_zero, List.set_cons_succ]
      go_simp
      exact hK.out _ _ (fun j => if j = 3 then true else ℓ j) ⟨V, Q, x23, x24, x25, (.slice (some ⟨g, off, none⟩) 7 cap), x27, x28, x29, x30, x31, x32, x33, x34, x35, x36, x22, x37, x38, x5, x6, (by simp only [Act.put, List.setIfInBounds_toArray, List.set_cons_zero, List.set_cons_succ]), ⟨hr.gb, hr.gp, hr.c14, hr.c15, hr.c16, hr.c17, hr.c18, hr.f0, hr.f1, hr.f2, (fun _ => rfl), hr.f4, hr.f5, hr.f6, hr.f7, hr.f8, hr.f9, hr.f10, hr.f11, hr.f12, hr.f13, hr.f14, hr.f15, hr.f16, hr.f17, hr.f18⟩⟩ (if_pos rfl) (fun j hj => if_neg hj)
    · revert hK
      obtain rfl := Option.some.inj ho
      have g3 : ℓ 3 = true := hdep { on := 3, ground := Ground.data } (by simp) rfl
      clear hdep ho
      have hgb := hr.gb
      obtain rfl := hr.f3 g3
      intro hK
      rw [if_pos (by rfl)]
      try simp only [Act.put, List.setIfInBounds_toArray, List.set_cons_zero, List.set_cons_succ]
      go_simp
      exact hK.out _ _ (fun j => if j = 4 then true else ℓ j) ⟨V, Q, x23, x24, x25, (.slice (some ⟨g, off, none⟩) 7 cap), (.pointer (some ⟨g, off + 1, none⟩)), x28, x29, x30, x31, x32, x33, x34, x35, x36, x22, x37, x38, x5, x6, (by simp only [Act.put, List.setIfInBounds_toArray, List.set_cons_zero, List.set_cons_succ]), ⟨hr.gb, hr.gp, hr.c14, hr.c15, hr.c16, hr.c17, hr.c18, hr.f0, hr.f1, hr.f2, hr.f3, (fun _ => rfl), hr.f5, hr.f6, hr.f7, hr.f8, hr.f9, hr.f10, hr.f11, hr.f12, hr.f13, hr.f14, hr.f15, hr.f16, hr.f17, hr.f18⟩⟩ (if_pos rfl) (fun j hj => if_neg hj)
    · revert hK
      obtain rfl := Option.some.inj ho
      have g4 : ℓ 4 = true := hdep { on := 4, ground := Ground.data } (by simp) rfl
      clear hdep ho
      have hgb := hr.gb
      obtain rfl := hr.f4 g4
      intro hK
      rw [if_pos (by rfl)]
      try simp only [Act.put, List.setIfInBounds_toArray, List.set_cons_zero, List.set_cons_succ]
      have cc := (hgb.cell (World.block_lt_of_cell? _ _ e1)).trans e1
      go_simp
      exact hK.out _ _ (fun j => if j = 5 then true else ℓ j) ⟨V, Q, x23, x24, x25, x26, (.pointer (some ⟨g, off + 1, none⟩)), (.string y1), x29, x30, x31, x32, x33, x34, x35, x36, x22, x37, x38, x5, x6, (by simp only [Act.put, List.setIfInBounds_toArray, List.set_cons_zero, List.set_cons_succ]), ⟨hr.gb, hr.gp, hr.c14, hr.c15, hr.c16, hr.c17, hr.c18, hr.f0, hr.f1, hr.f2, hr.f3, hr.f4, (fun _ => rfl), hr.f6, hr.f7, hr.f8, hr.f9, hr.f10, hr.f11, hr.f12, hr.f13, hr.f14, hr.f15, hr.f16, hr.f17, hr.f18⟩⟩ (if_pos rfl) (fun j hj => if_neg hj)
    · revert hK
      obtain rfl := Option.some.inj ho
      clear hdep ho
      have hgb := hr.gb
      intro hK
      rw [if_pos (by rfl)]
      try simp only [Act.put, List.setIfInBounds_toArray, List.set_cons_zero, List.set_cons_succ]
      go_simp
      exact hK.out _ _ (fun j => if j = 6 then true else ℓ j) ⟨V, Q, x23, x24, x25, x26, x27, x28, (.slice (some ⟨g, off, none⟩) 7 cap), x30, x31, x32, x33, x34, x35, x36, x22, x37, x38, x5, x6, (by simp only [Act.put, List.setIfInBounds_toArray, List.set_cons_zero, List.set_cons_succ]), ⟨hr.gb, hr.gp, hr.c14, hr.c15, hr.c16, hr.c17, hr.c18, hr.f0, hr.f1, hr.f2, hr.f3, hr.f4, hr.f5, (fun _ => rfl), hr.f7, hr.f8, hr.f9, hr.f10, hr.f11, hr.f12, hr.f13, hr.f14, hr.f15, hr.f16, hr.f17, hr.f18⟩⟩ (if_pos rfl) (fun j hj => if_neg hj)
    · revert hK
      obtain rfl := Option.some.inj ho
      have g6 : ℓ 6 = true := hdep { on := 6, ground := Ground.data } (by simp) rfl
      clear hdep ho
      have hgb := hr.gb
      obtain rfl := hr.f6 g6
      intro hK
      rw [if_pos (by rfl)]
      try simp only [Act.put, List.setIfInBounds_toArray, List.set_cons_zero, List.set_cons_succ]
      go_simp
      exact hK.out _ _ (fun j => if j = 7 then true else ℓ j) ⟨V, Q, x23, x24, x25, x26, x27, x28, (.slice (some ⟨g, off, none⟩) 7 cap), (.pointer (some ⟨g, off + 4, none⟩)), x31, x32, x33, x34, x35, x36, x22, x37, x38, x5, x6, (by simp only [Act.put, List.setIfInBounds_toArray, List.set_cons_zero, List.set_cons_succ]), ⟨hr.gb, hr.gp, hr.c14, hr.c15, hr.c16, hr.c17, hr.c18, hr.f0, hr.f1, hr.f2, hr.f3, hr.f4, hr.f5, hr.f6, (fun _ => rfl), hr.f8, hr.f9, hr.f10, hr.f11, hr.f12, hr.f13, hr.f14, hr.f15, hr.f16, hr.f17, hr.f18⟩⟩ (if_pos rfl) (fun j hj => if_neg hj)
    · revert hK
      obtain rfl := Option.some.inj ho
      have g7 : ℓ 7 = true := hdep { on := 7, ground := Ground.data } (by simp) rfl
      clear hdep ho
      have hgb := hr.gb
      obtain rfl := hr.f7 g7
      intro hK
      rw [if_pos (by rfl)]
      try simp only [Act.put, List.setIfInBounds_toArray, List.set_cons_zero, List.set_cons_succ]
      have cc := (hgb.cell (World.block_lt_of_cell? _ _ e4)).trans e4
      go_simp
      exact hK.out _ _ (fun j => if j = 8 then true else ℓ j) ⟨V, Q, x23, x24, x25, x26, x27, x28, x29, (.pointer (some ⟨g, off + 4, none⟩)), (.string y4), x32, x33, x34, x35, x36, x22, x37, x38, x5, x6, (by simp only [Act.put, List.setIfInBounds_toArray, List.set_cons_zero, List.set_cons_succ]), ⟨hr.gb, hr.gp, hr.c14, hr.c15, hr.c16, hr.c17, hr.c18, hr.f0, hr.f1, hr.f2, hr.f3, hr.f4, hr.f5, hr.f6, hr.f7, (fun _ => rfl), hr.f9, hr.f10, hr.f11, hr.f12, hr.f13, hr.f14, hr.f15, hr.f16, hr.f17, hr.f18⟩⟩ (if_pos rfl) (fun j hj => if_neg hj)
    · revert hK
      obtain rfl := Option.some.inj ho
      clear hdep ho
      have hgb := hr.gb
      intro hK
      rw [if_pos (by rfl)]
      try simp only [Act.put, List.setIfInBounds_toArray, List.set_cons_zero, List.set_cons_succ]
      go_simp
      exact hK.out _ _ (fun j => if j = 9 then true else ℓ j) ⟨V, Q, x23, x24, x25, x26, x27, x28, x29, x30, x31, (.slice (some ⟨g, off, none⟩) 7 cap), x33, x34, x35, x36, x22, x37, x38, x5, x6, (by simp only [Act.put, List.setIfInBounds_toArray, List.set_cons_zero, List.set_cons_succ]), ⟨hr.gb, hr.gp, hr.c14, hr.c15, hr.c16, hr.c17, hr.c18, hr.f0, hr.f1, hr.f2, hr.f3, hr.f4, hr.f5, hr.f6, hr.f7, hr.f8, (fun _ => rfl), hr.f10, hr.f11, hr.f12, hr.f13, hr.f14, hr.f15, hr.f16, hr.f17, hr.f18⟩⟩ (if_pos rfl) (fun j hj => if_neg hj)
    · revert hK
      obtain rfl := Option.some.inj ho
      have g9 : ℓ 9 = true := hdep { on := 9, ground := Ground.data } (by simp) rfl
      clear hdep ho
      have hgb := hr.gb
      obtain rfl := hr.f9 g9
      intro hK
      rw [if_pos (by rfl)]
      try simp only [Act.put, List.setIfInBounds_toArray, List.set_cons_zero, List.set_cons_succ]
      go_simp
      exact hK.out _ _ (fun j => if j = 10 then true else ℓ j) ⟨V, Q, x23, x24, x25, x26, x27, x28, x29, x30, x31, (.slice (some ⟨g, off, none⟩) 7 cap), (.pointer (some ⟨g, off + 5, none⟩)), x34, x35, x36, x22, x37, x38, x5, x6, (by simp only [Act.put, List.setIfInBounds_toArray, List.set_cons_zero, List.set_cons_succ]), ⟨hr.gb, hr.gp, hr.c14, hr.c15, hr.c16, hr.c17, hr.c18, hr.f0, hr.f1, hr.f2, hr.f3, hr.f4, hr.f5, hr.f6, hr.f7, hr.f8, hr.f9, (fun _ => rfl), hr.f11, hr.f12, hr.f13, hr.f14, hr.f15, hr.f16, hr.f17, hr.f18⟩⟩ (if_pos rfl) (fun j hj => if_neg hj)
    · revert hK
      obtain rfl := Option.some.inj ho
      have g10 : ℓ 10 = true := hdep { on := 10, ground := Ground.data } (by simp) rfl
      clear hdep ho
      have hgb := hr.gb
      obtain rfl := hr.f10 g10
      intro hK
      rw [if_pos (by rfl)]
      try simp only [Act.put, List.setIfInBounds_toArray, List.set_cons_zero, List.set_cons_succ]
      have cc := (hgb.cell (World.block_lt_of_cell? _ _ e5)).trans e5
      go_simp
      exact hK.out _ _ (fun j => if j = 11 then true else ℓ j) ⟨V, Q, x23, x24, x25, x26, x27, x28, x29, x30, x31, x32, (.pointer (some ⟨g, off + 5, none⟩)), (.string y5), x35, x36, x22, x37, x38, x5, x6, (by simp only [Act.put, List.setIfInBounds_toArray, List.set_cons_zero, List.set_cons_succ]), ⟨hr.gb, hr.gp, hr.c14, hr.c15, hr.c16, hr.c17, hr.c18, hr.f0, hr.f1, hr.f2, hr.f3, hr.f4, hr.f5, hr.f6, hr.f7, hr.f8, hr.f9, hr.f10, (fun _ => rfl), hr.f12, hr.f13, hr.f14, hr.f15, hr.f16, hr.f17, hr.f18⟩⟩ (if_pos rfl) (fun j hj => if_neg hj)
    · revert hK
      obtain rfl := Option.some.inj ho
      have g2 : ℓ 2 = true := hdep { on := 2, ground := Ground.data } (by simp) rfl
      have g5 : ℓ 5 = true := hdep { on := 5, ground := Ground.data } (by simp) rfl
      have g8 : ℓ 8 = true := hdep { on := 8, ground := Ground.data } (by simp) rfl
      have g11 : ℓ 11 = true := hdep { on := 11, ground := Ground.data } (by simp) rfl
      clear hdep ho
      have hgb := hr.gb
      obtain rfl := hr.f2 g2
      obtain rfl := hr.f5 g5
      obtain rfl := hr.f8 g8
      obtain rfl := hr.f11 g11
      intro hK
      rw [if_pos (by rfl)]
      try simp only [Act.put, List.setIfInBounds_toArray, List.set_cons_zero, List.set_cons_succ]
      have hr9 := hr.below (w9 := w'.alloc (.cells (#[.string y0, .string y1, .string y4, .string y5]) 9)) ((Below.refl _ _).alloc (Nat.le_refl _) _)
      go_simp
      exact hK.out _ _ (fun j => if j = 12 then true else ℓ j) ⟨V, Q, x23, x24, (.string y0), x26, x27, (.string y1), x29, x30, (.string y4), x32, x33, (.string y5), (.slice (some ⟨w'.heap.size, 0, none⟩) 4 4), x36, x22, x37, x38, x5, x6, (by simp only [Act.put, List.setIfInBounds_toArray, List.set_cons_zero, List.set_cons_succ]), ⟨hr9.gb, hr9.gp, hr9.c14, hr9.c15, hr9.c16, hr9.c17, hr9.c18, hr9.f0, hr9.f1, hr9.f2, hr9.f3, hr9.f4, hr9.f5, hr9.f6, hr9.f7, hr9.f8, hr9.f9, hr9.f10, hr9.f11, (fun _ => ⟨w'.heap.size, rfl, hgb.size, new_row w' _ _ _ rfl⟩), hr9.f13, hr9.f14, hr9.f15, hr9.f16, hr9.f17, hr9.f18⟩⟩ (if_pos rfl) (fun j hj => if_neg hj)
    · revert hK
      obtain rfl := Option.some.inj ho
      have g12 : ℓ 12 = true := hdep { on := 12, ground := Ground.data } (by simp) rfl
      clear hdep ho
      have hgb := hr.gb
      obtain ⟨N, rfl, hN, hrow⟩ := hr.f12 g12
      intro hK
      rw [if_pos (by rfl)]
      try simp only [Act.put, List.setIfInBounds_toArray, List.set_cons_zero, List.set_cons_succ]
      have z14 : ℓ 14 = false := by
        cases h7 : ℓ 14
        · rfl
        · have := hr.c14 h7; rw [this] at hL; cases hL
      have z15 : ℓ 15 = false := by
        cases h7 : ℓ 15
        · rfl
        · have := hr.c15 h7; rw [this] at hL; cases hL
      have z16 : ℓ 16 = false := by
        cases h7 : ℓ 16
        · rfl
        · have := hr.c16 h7; rw [this] at hL; cases hL
      have z17 : ℓ 17 = false := by
        cases h7 : ℓ 17
        · rfl
        · have := hr.c17 h7; rw [this] at hL; cases hL
      have z18 : ℓ 18 = false := by
        cases h7 : ℓ 18
        · rfl
        · have := hr.c18 h7; rw [this] at hL; cases hL
      go_simp
      go_at_call 23
      refine Calls.mono (KN.out _ _ hrow) ?_
      rintro e w9 ⟨V9, Q9, rfl, hb9, hgp9⟩
      have hr9 := hr.below hb9
      exact hK.out _ _ (fun j => if j = 13 then true else ℓ j) ⟨V9, Q9, x23, x24, x25, x26, x27, x28, x29, x30, x31, x32, x33, x34, (.slice (some ⟨N, 0, none⟩) 4 4), (.tuple #[V9, .bool Q9]), x22, x37, x38, x5, x6, (by simp only [Act.put, List.setIfInBounds_toArray, List.set_cons_zero, List.set_cons_succ]), ⟨hr9.gb, (fun _ => hgp9), (fun g => by have g2 : ℓ 14 = true := g; rw [z14] at g2; cases g2), (fun g => by have g2 : ℓ 15 = true := g; rw [z15] at g2; cases g2), (fun g => by have g2 : ℓ 16 = true := g; rw [z16] at g2; cases g2), (fun g => by have g2 : ℓ 17 = true := g; rw [z17] at g2; cases g2), (fun g => by have g2 : ℓ 18 = true := g; rw [z18] at g2; cases g2), hr9.f0, hr9.f1, hr9.f2, hr9.f3, hr9.f4, hr9.f5, hr9.f6, hr9.f7, hr9.f8, hr9.f9, hr9.f10, hr9.f11, hr9.f12, (fun _ => rfl), (fun g => by have g2 : ℓ 14 = true := g; rw [z14] at g2; cases g2), (fun g => by have g2 : ℓ 15 = true := g; rw [z15] at g2; cases g2), (fun g => by have g2 : ℓ 16 = true := g; rw [z16] at g2; cases g2), (fun g => by have g2 : ℓ 17 = true := g; rw [z17] at g2; cases g2), (fun g => by have g2 : ℓ 18 = true := g; rw [z18] at g2; cases g2)⟩⟩ (if_pos rfl) (fun j hj => if_neg hj)
    · revert hK
      obtain rfl := Option.some.inj ho
      have g13 : ℓ 13 = true := hdep { on := 13, ground := Ground.data } (by simp) rfl
      clear hdep ho
      have hgb := hr.gb
      obtain rfl := hr.f13 g13
      intro hK
      rw [if_pos (by rfl)]
      try simp only [Act.put, List.setIfInBounds_toArray, List.set_cons_zero, List.set_cons_succ]
      go_simp
      exact hK.out _ _ (fun j => if j = 14 then true else ℓ j) ⟨V, Q, x23, x24, x25, x26, x27, x28, x29, x30, x31, x32, x33, x34, x35, (.tuple #[V, .bool Q]), (.tuple #[V, .bool Q]), x37, x38, x5, x6, (by simp only [Act.put, List.setIfInBounds_toArray, List.set_cons_zero, List.set_cons_succ]), ⟨hr.gb, hr.gp, (fun _ => g13), hr.c15, hr.c16, hr.c17, hr.c18, hr.f0, hr.f1, hr.f2, hr.f3, hr.f4, hr.f5, hr.f6, hr.f7, hr.f8, hr.f9, hr.f10, hr.f11, hr.f12, hr.f13, (fun _ => rfl), hr.f15, hr.f16, hr.f17, hr.f18⟩⟩ (if_pos rfl) (fun j hj => if_neg hj)
    · revert hK
      obtain rfl := Option.some.inj ho
      have g14 : ℓ 14 = true := hdep { on := 14, ground := Ground.data } (by simp) rfl
      clear hdep ho
      have hgb := hr.gb
      obtain rfl := hr.f14 g14
      intro hK
      rw [if_pos (by rfl)]
      try simp only [Act.put, List.setIfInBounds_toArray, List.set_cons_zero, List.set_cons_succ]
      go_simp
      exact hK.out _ _ (fun j => if j = 15 then true else ℓ j) ⟨V, Q, x23, x24, x25, x26, x27, x28, x29, x30, x31, x32, x33, x34, x35, x36, (.tuple #[V, .bool Q]), (V), x38, x5, x6, (by simp only [Act.put, List.setIfInBounds_toArray, List.set_cons_zero, List.set_cons_succ]), ⟨hr.gb, hr.gp, hr.c14, (fun _ => hr.c14 g14), hr.c16, hr.c17, hr.c18, hr.f0, hr.f1, hr.f2, hr.f3, hr.f4, hr.f5, hr.f6, hr.f7, hr.f8, hr.f9, hr.f10, hr.f11, hr.f12, hr.f13, hr.f14, (fun _ => rfl), hr.f16, hr.f17, hr.f18⟩⟩ (if_pos rfl) (fun j hj => if_neg hj)
    · revert hK
      obtain rfl := Option.some.inj ho
      have g14 : ℓ 14 = true := hdep { on := 14, ground := Ground.data } (by simp) rfl
      clear hdep ho
      have hgb := hr.gb
      obtain rfl := hr.f14 g14
      intro hK
      rw [if_pos (by rfl)]
      try simp only [Act.put, List.setIfInBounds_toArray, List.set_cons_zero, List.set_cons_succ]
      go_simp
      exact hK.out _ _ (fun j => if j = 16 then true else ℓ j) ⟨V, Q, x23, x24, x25, x26, x27, x28, x29, x30, x31, x32, x33, x34, x35, x36, (.tuple #[V, .bool Q]), x37, (.bool Q), x5, x6, (by simp only [Act.put, List.setIfInBounds_toArray, List.set_cons_zero, List.set_cons_succ]), ⟨hr.gb, hr.gp, hr.c14, hr.c15, (fun _ => hr.c14 g14), hr.c17, hr.c18, hr.f0, hr.f1, hr.f2, hr.f3, hr.f4, hr.f5, hr.f6, hr.f7, hr.f8, hr.f9, hr.f10, hr.f11, hr.f12, hr.f13, hr.f14, hr.f15, (fun _ => rfl), hr.f17, hr.f18⟩⟩ (if_pos rfl) (fun j hj => if_neg hj)
    · revert hK
      obtain rfl := Option.some.inj ho
      have g15 : ℓ 15 = true := hdep { on := 15, ground := Ground.data } (by simp) rfl
      clear hdep ho
      have hgb := hr.gb
      obtain rfl := (hr.f15 g15).symm
      intro hK
      rw [if_pos (by rfl)]
      try simp only [Act.put, List.setIfInBounds_toArray, List.set_cons_zero, List.set_cons_succ]
      go_simp
      exact hK.out _ _ (fun j => if j = 17 then true else ℓ j) ⟨V, Q, x23, x24, x25, x26, x27, x28, x29, x30, x31, x32, x33, x34, x35, x36, x22, (V), x38, (V), x6, (by simp only [Act.put, List.setIfInBounds_toArray, List.set_cons_zero, List.set_cons_succ]), ⟨hr.gb, hr.gp, hr.c14, hr.c15, hr.c16, (fun _ => hr.c15 g15), hr.c18, hr.f0, hr.f1, hr.f2, hr.f3, hr.f4, hr.f5, hr.f6, hr.f7, hr.f8, hr.f9, hr.f10, hr.f11, hr.f12, hr.f13, hr.f14, hr.f15, hr.f16, (fun _ => rfl), hr.f18⟩⟩ (if_pos rfl) (fun j hj => if_neg hj)
    · revert hK
      obtain rfl := Option.some.inj ho
      have g16 : ℓ 16 = true := hdep { on := 16, ground := Ground.data } (by simp) rfl
      clear hdep ho
      have hgb := hr.gb
      obtain rfl := hr.f16 g16
      intro hK
      rw [if_pos (by rfl)]
      try simp only [Act.put, List.setIfInBounds_toArray, List.set_cons_zero, List.set_cons_succ]
      go_simp
      exact hK.out _ _ (fun j => if j = 18 then true else ℓ j) ⟨V, Q, x23, x24, x25, x26, x27, x28, x29, x30, x31, x32, x33, x34, x35, x36, x22, x37, (.bool Q), x5, (.bool Q), (by simp only [Act.put, List.setIfInBounds_toArray, List.set_cons_zero, List.set_cons_succ]), ⟨hr.gb, hr.gp, hr.c14, hr.c15, hr.c16, hr.c17, (fun _ => hr.c16 g16), hr.f0, hr.f1, hr.f2, hr.f3, hr.f4, hr.f5, hr.f6, hr.f7, hr.f8, hr.f9, hr.f10, hr.f11, hr.f12, hr.f13, hr.f14, hr.f15, hr.f16, hr.f17, (fun _ => rfl)⟩⟩ (if_pos rfl) (fun j hj => if_neg hj)
  · rintro a' w' ℓ ℓ' hℓ hI
    rw [← show ℓ = ℓ' from funext hℓ]
    exact hI
end Go.Proofs.YthlapikcjiajgaaDoor
