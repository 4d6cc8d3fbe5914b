
/-
  The text of an event: what the program's EventText returns. Conditions: numbers are ints, words are words; the program's table of names and the library's table of powers lie in memory as the texts lay them.
-/
import Derived.Test.YthlapikcjiajgaaDoorBas
import Derived.Test.YthlapikcjiajgaaDoorEvx
import Derived.Test.YthlapikcjiajgaaDoorItoa3
import Derived.Test.YthlapikcjiajgaaDoorRgi
import Derived.Lib.Join
namespace Go.Proofs.YthlapikcjiajgaaDoor
open Go.ChangeShapes Go.WideShapes Go.ChangeAt Go.RowKit Go.Deep
set_option linter.unusedVariables false

theorem new_row (w : World) (cs : Array Value) (ty : TypeId) (B : Nat) (hB : B = w.heap.size) : (w.alloc (.cells cs ty)).heap[B]? = some (.cells cs ty (0, 0)) := by
  subst hB
  show (w.heap.push _)[w.heap.size]? = _
  simp
theorem row_below {X X' : World} {B : Nat} {cs : Array Value} {ty : TypeId} (h : X.heap[B]? = some (.cells cs ty (0, 0))) (hb : Below X.heap.size X X') : X'.heap[B]? = some (.cells cs ty (0, 0)) := by
  have hlt : B < X.heap.size := by
    rcases Nat.lt_or_ge B X.heap.size with g | g
    · exact g
    · rw [Array.getElem?_eq_none g] at h; cases h
  rw [hb.block B hlt]
  exact h
namespace Ex
theorem mk_app (a b : List UInt8) : (⟨(a ++ b).toArray⟩ : ByteArray) = ⟨a.toArray⟩ ++ ⟨b.toArray⟩ := by
  apply ByteArray.ext
  simp
theorem mk_self (x : ByteArray) : (⟨x.data.toList.toArray⟩ : ByteArray) = x := by
  apply ByteArray.ext
  simp
def jn : List ByteArray → ByteArray
  | [] => ⟨#[]⟩
  | [x] => x
  | x :: y :: r => x ++ sp ++ jn (y :: r)
theorem jn_eq : ∀ xs : List ByteArray, (⟨(Lib.join (xs.map (·.data.toList)) [32]).toArray⟩ : ByteArray) = jn xs
  | [] => rfl
  | [x] => by
    rw [List.map_cons, List.map_nil, Lib.join_one]
    exact mk_self x
  | x :: y :: r => by
    have ih := jn_eq (y :: r)
    rw [List.map_cons, List.map_cons, Lib.join_cons, show Lib.joinTail [32] (y.data.toList :: r.map (·.data.toList)) = [32] ++ Lib.join ((y :: r).map (·.data.toList)) [32] by
      rw [List.map_cons, Lib.join_cons]; simp [Lib.joinTail], mk_app, mk_app, mk_self]
    show _ = x ++ sp ++ jn (y :: r)
    rw [ih, ByteArray.append_assoc]
theorem join7 (d1 d2 h3 q d4 d5 h6 : ByteArray) : (⟨(Lib.join (([d1, d2, h3, q, d4, d5, h6] : List ByteArray).map (·.data.toList)) (sp : ByteArray).data.toList).toArray⟩ : ByteArray) = line d1 d2 h3 q d4 d5 h6 := by
  have e : (sp : ByteArray).data.toList = [32] := rfl
  rw [e, jn_eq]
  unfold line
  simp only [jn, ByteArray.append_assoc]
end Ex
theorem row_cell {w : World} {N : Nat} {cs : Array Value} {ty : TypeId} (h : w.heap[N]? = some (.cells cs ty (0, 0))) (j : Nat) {v : Value} (hj : cs[j]? = some v) : w.cell? ⟨N, j, none⟩ = some v := by
  simp [World.cell?, h, hj]
theorem row_lt {w : World} {N : Nat} {cs : Array Value} {ty : TypeId} (h : w.heap[N]? = some (.cells cs ty (0, 0))) : N < w.heap.size := by
  rcases Nat.lt_or_ge N w.heap.size with g | g
  · exact g
  · rw [Array.getElem?_eq_none g] at h; cases h
theorem join_row (d1 d2 h3 q d4 d5 h6 : ByteArray) (z1 : d1.size ≤ 30) (z2 : d2.size ≤ 30) (z3 : h3.size ≤ 30) (z4 : d4.size ≤ 30) (z5 : d5.size ≤ 30) (z6 : h6.size ≤ 30) (zq : q.size ≤ 30) (N : Nat) (X : World) (h : X.heap[N]? = some (.cells #[.string d1, .string d2, .string h3, .string q, .string d4, .string d5, .string h6] 9 (0, 0))) :
    Calls Tryd.prog 19 #[.slice (some ⟨N, 0, none⟩) 7 7, .string ⟨#[32]⟩] X fun e w' => e = .returned (.string (Ex.line d1 d2 h3 q d4 d5 h6)) ∧ Below X.heap.size X w' := by
  have hz : (Lib.join (([d1, d2, h3, q, d4, d5, h6] : List ByteArray).map (·.data.toList)) (Ex.sp : ByteArray).data.toList).length ≤ 140737488355328 := by
    have e := congrArg ByteArray.size (Ex.join7 d1 d2 h3 q d4 d5 h6)
    have e2 : (⟨(Lib.join (([d1, d2, h3, q, d4, d5, h6] : List ByteArray).map (·.data.toList)) (Ex.sp : ByteArray).data.toList).toArray⟩ : ByteArray).size = (Lib.join (([d1, d2, h3, q, d4, d5, h6] : List ByteArray).map (·.data.toList)) (Ex.sp : ByteArray).data.toList).length := by simp [ByteArray.size]
    rw [e2] at e
    rw [e]
    unfold Ex.line
    have es : (Ex.sp : ByteArray).size = 1 := rfl
    simp only [ByteArray.size_append, es]
    omega
  have := Tryd.strings_Join N 0 7 [d1, d2, h3, q, d4, d5, h6] Ex.sp X (fun j x hj => by
    rw [Nat.zero_add]
    refine row_cell h j ?_
    have e : (#[.string d1, .string d2, .string h3, .string q, .string d4, .string d5, .string h6] : Array Value)[j]? = (([d1, d2, h3, q, d4, d5, h6] : List ByteArray).map Value.string)[j]? := by simp
    rw [e, List.getElem?_map, hj]
    rfl) (row_lt h) (by simp) (by simp) hz
  rw [Ex.join7] at this
  exact this
structure EvR (W0 : World) (a : Int) (c : Int) (p : Int) (f : Int) (u : Int) (s : Int) (d1 : ByteArray) (d2 : ByteArray) (h3 : ByteArray) (q : ByteArray) (d4 : ByteArray) (d5 : ByteArray) (h6 : ByteArray) (r : ByteArray) (N0 : Nat) (w' : World) (b0 b1 b2 b3 b4 b5 b6 b7 b8 b9 b10 b11 b12 b13 b14 b15 b16 b17 b18 b19 b20 b21 : Bool) (x10 x11 x12 x13 x14 x15 x16 x17 x18 x19 x20 x21 x22 x23 x24 x25 x26 x27 x28 x29 x30 x2 : Value) : Prop where
  gb : Below W0.heap.size W0 w'
  f0 : b0 = true → x10 = .pointer (some ⟨N0, 0, none⟩)
  f1 : b1 = true → x11 = .int .i64 a
  f2 : b2 = true → x12 = .string d1
  f3 : b3 = true → x13 = .pointer (some ⟨N0, 1, none⟩)
  f4 : b4 = true → x14 = .int .i64 c
  f5 : b5 = true → x15 = .string d2
  f6 : b6 = true → x16 = .pointer (some ⟨N0, 2, none⟩)
  f7 : b7 = true → x17 = .int .u32 p
  f8 : b8 = true → x18 = .string h3
  f9 : b9 = true → x19 = .string q
  f10 : b10 = true → x20 = .pointer (some ⟨N0, 4, none⟩)
  f11 : b11 = true → x21 = .int .i64 f
  f12 : b12 = true → x22 = .string d4
  f13 : b13 = true → x23 = .pointer (some ⟨N0, 5, none⟩)
  f14 : b14 = true → x24 = .int .i64 u
  f15 : b15 = true → x25 = .string d5
  f16 : b16 = true → x26 = .pointer (some ⟨N0, 6, none⟩)
  f17 : b17 = true → x27 = .int .u32 s
  f18 : b18 = true → x28 = .string h6
  f19 : b19 = true → ∃ N, x29 = .slice (some ⟨N, 0, none⟩) 7 7 ∧ W0.heap.size ≤ N ∧ w'.heap[N]? = some (.cells #[.string d1, .string d2, .string h3, .string q, .string d4, .string d5, .string h6] 9 (0, 0))
  f20 : b20 = true → x30 = .string r
  f21 : b21 = true → x2 = .string r
theorem EvR.below {W0 : World} {a : Int} {c : Int} {p : Int} {f : Int} {u : Int} {s : Int} {d1 : ByteArray} {d2 : ByteArray} {h3 : ByteArray} {q : ByteArray} {d4 : ByteArray} {d5 : ByteArray} {h6 : ByteArray} {r : ByteArray} {N0 : Nat} {w' w9 : World} {b0 b1 b2 b3 b4 b5 b6 b7 b8 b9 b10 b11 b12 b13 b14 b15 b16 b17 b18 b19 b20 b21 : Bool} {x10 x11 x12 x13 x14 x15 x16 x17 x18 x19 x20 x21 x22 x23 x24 x25 x26 x27 x28 x29 x30 x2 : Value} (h : EvR W0 a c p f u s d1 d2 h3 q d4 d5 h6 r N0 w' b0 b1 b2 b3 b4 b5 b6 b7 b8 b9 b10 b11 b12 b13 b14 b15 b16 b17 b18 b19 b20 b21 x10 x11 x12 x13 x14 x15 x16 x17 x18 x19 x20 x21 x22 x23 x24 x25 x26 x27 x28 x29 x30 x2) (hb : Below w'.heap.size w' w9) : EvR W0 a c p f u s d1 d2 h3 q d4 d5 h6 r N0 w9 b0 b1 b2 b3 b4 b5 b6 b7 b8 b9 b10 b11 b12 b13 b14 b15 b16 b17 b18 b19 b20 b21 x10 x11 x12 x13 x14 x15 x16 x17 x18 x19 x20 x21 x22 x23 x24 x25 x26 x27 x28 x29 x30 x2 :=
  ⟨h.gb.trans (hb.mono h.gb.size), h.f0, h.f1, h.f2, h.f3, h.f4, h.f5, h.f6, h.f7, h.f8, h.f9, h.f10, h.f11, h.f12, h.f13, h.f14, h.f15, h.f16, h.f17, h.f18, fun g => (h.f19 g).imp fun N k => ⟨k.1, k.2.1, row_below k.2.2 hb⟩, h.f20, h.f21⟩
set_option maxRecDepth 40000 in
set_option maxHeartbeats 8000000 in
theorem impl_evt_op (a c p f u s : Int) (k : Nat) (d1 d2 h3 q d4 d5 h6 r : ByteArray) (w : World) (hk : k < 33) (hc : w.cell? ⟨0, k, none⟩ = some (.string q))
    (K1 : Hid (∀ X, Below w.heap.size w X → Calls Tryd.prog 20 #[.int .i64 a] X fun e w' => e = .returned (.string d1) ∧ Below X.heap.size X w'))
    (K2 : Hid (∀ X, Below w.heap.size w X → Calls Tryd.prog 20 #[.int .i64 c] X fun e w' => e = .returned (.string d2) ∧ Below X.heap.size X w'))
    (K3 : Hid (∀ X, Below w.heap.size w X → Calls Tryd.prog 21 #[.int .u32 p] X fun e w' => e = .returned (.string h3) ∧ Below X.heap.size X w'))
    (K4 : Hid (∀ X, Below w.heap.size w X → Calls Tryd.prog 20 #[.int .i64 f] X fun e w' => e = .returned (.string d4) ∧ Below X.heap.size X w'))
    (K5 : Hid (∀ X, Below w.heap.size w X → Calls Tryd.prog 20 #[.int .i64 u] X fun e w' => e = .returned (.string d5) ∧ Below X.heap.size X w'))
    (K6 : Hid (∀ X, Below w.heap.size w X → Calls Tryd.prog 21 #[.int .u32 s] X fun e w' => e = .returned (.string h6) ∧ Below X.heap.size X w'))
    (KJ : Hid (∀ N X, X.heap[N]? = some (.cells #[.string d1, .string d2, .string h3, .string q, .string d4, .string d5, .string h6] 9 (0, 0)) → Calls Tryd.prog 19 #[.slice (some ⟨N, 0, none⟩) 7 7, .string ⟨#[32]⟩] X fun e w' => e = .returned (.string r) ∧ Below X.heap.size X w')) :
    Calls Tryd.prog 8 #[.agg #[.int .i64 a, .int .i64 c, .int .u32 p, .int .i64 (k : Int), .int .i64 f, .int .i64 u, .int .u32 s]] w fun e w' => e = .returned (.string r) ∧ Below w.heap.size w w' := by
  have HR : Hid (CellsAt (w.alloc (.cells #[.int .i64 a, .int .i64 c, .int .u32 p, .int .i64 (k : Int), .int .i64 f, .int .i64 u, .int .u32 s] 26)) w.heap.size 0 [.int .i64 a, .int .i64 c, .int .u32 p, .int .i64 (k : Int), .int .i64 f, .int .i64 u, .int .u32 s]) := CellsAt.new w [.int .i64 a, .int .i64 c, .int .u32 p, .int .i64 (k : Int), .int .i64 f, .int .i64 u, .int .u32 s] 26 _ rfl
  have HB1 : Hid (Below w.heap.size w (w.alloc (.cells #[.int .i64 a, .int .i64 c, .int .u32 p, .int .i64 (k : Int), .int .i64 f, .int .i64 u, .int .u32 s] 26))) := (Below.refl _ _).alloc (Nat.le_refl _) _
  have e0 := cell0 HR.out 0 rfl
  have e1 := cell0 HR.out 1 rfl
  have e2 := cell0 HR.out 2 rfl
  have e3 := cell0 HR.out 3 rfl
  have e4 := cell0 HR.out 4 rfl
  have e5 := cell0 HR.out 5 rfl
  have e6 := cell0 HR.out 6 rfl
  have HC : Hid (∀ X, Below w.heap.size w X → Calls Tryd.prog 18 #[.int .i64 k] X fun e w' => e = .returned (.string q) ∧ w' = X) := fun X hX => impl_name k q X hk ((hX.cell (World.block_lt_of_cell? _ _ hc)).trans hc)
  have HI : Hid (∀ X, Calls Tryd.prog 17 #[.int .i64 k] X fun e w' => e = .returned (.bool true) ∧ w' = X) := fun X => isOp_yes _ X (by omega) (by omega)
  clear hc hk
  go_enter Tryd.func8, Tryd.ntmps8
  go_wp2_with fail
  refine (HI.out _).mono ?_
  rintro e w7 ⟨rfl, rfl⟩
  go_wp2_with fail
  refine (HC.out _ HB1.out).mono ?_
  rintro e w7 ⟨rfl, rfl⟩
  go_wp2
  generalize w.alloc (.cells #[.int .i64 a, .int .i64 c, .int .u32 p, .int .i64 (k : Int), .int .i64 f, .int .i64 u, .int .u32 s] 26) = W1 at e0 e1 e2 e3 e4 e5 e6 HB1 ⊢
  clear HR
  refine wp_region_inv (by kernel_rfl) (by kernel_rfl) (fun A ℓ a' w' => ∃ (x10 x11 x12 x13 x14 x15 x16 x17 x18 x19 x20 x21 x22 x23 x24 x25 x26 x27 x28 x29 x30 x2 : Value), a' = ((((((((((((((((((((((A.put (some 10) x10).put (some 11) x11).put (some 12) x12).put (some 13) x13).put (some 14) x14).put (some 15) x15).put (some 16) x16).put (some 17) x17).put (some 18) x18).put (some 19) x19).put (some 20) x20).put (some 21) x21).put (some 22) x22).put (some 23) x23).put (some 24) x24).put (some 25) x25).put (some 26) x26).put (some 27) x27).put (some 28) x28).put (some 29) x29).put (some 30) x30).put (some 2) x2) ∧ EvR (W1) (a) (c) (p) (f) (u) (s) (d1) (d2) (h3) (q) (d4) (d5) (h6) (r) (w.heap.size) w' (ℓ 0) (ℓ 1) (ℓ 2) (ℓ 3) (ℓ 4) (ℓ 5) (ℓ 6) (ℓ 7) (ℓ 8) (ℓ 9) (ℓ 10) (ℓ 11) (ℓ 12) (ℓ 13) (ℓ 14) (ℓ 15) (ℓ 16) (ℓ 17) (ℓ 18) (ℓ 19) (ℓ 20) (ℓ 21) x10 x11 x12 x13 x14 x15 x16 x17 x18 x19 x20 x21 x22 x23 x24 x25 x26 x27 x28 x29 x30 x2) ?_ ?_ ?_ ?_
  · exact ⟨undef, undef, undef, undef, undef, undef, undef, undef, undef, undef, undef, undef, undef, undef, undef, undef, undef, undef, undef, undef, undef, (.string ⟨#[]⟩), (by simp only [Act.put, List.setIfInBounds_toArray, List.set_cons_zero, List.set_cons_succ]), ⟨(Below.refl _ _).drew, (fun g => by cases g), (fun g => by cases g), (fun g => by cases g), (fun g => by cases g), (fun g => by cases g), (fun g => by cases g), (fun g => by cases g), (fun g => by cases g), (fun g => by cases g), (fun g => by cases g), (fun g => by cases g), (fun g => by cases g), (fun g => by cases g), (fun g => by cases g), (fun g => by cases g), (fun g => by cases g), (fun g => by cases g), (fun g => by cases g), (fun g => by cases g), (fun g => by cases g), (fun g => by cases g), (fun g => by cases g)⟩⟩
  · intro ℓ a' w' hI hall
    obtain ⟨x10, x11, x12, x13, x14, x15, x16, x17, x18, x19, x20, x21, x22, x23, x24, x25, x26, x27, x28, x29, x30, x2, rfl, hr⟩ := hI
    have hall' : ∀ i, i < 22 → ℓ i = true := hall
    obtain rfl := hr.f0 (hall' 0 (by decide))
    obtain rfl := hr.f1 (hall' 1 (by decide))
    obtain rfl := hr.f2 (hall' 2 (by decide))
    obtain rfl := hr.f3 (hall' 3 (by decide))
    obtain rfl := hr.f4 (hall' 4 (by decide))
    obtain rfl := hr.f5 (hall' 5 (by decide))
    obtain rfl := hr.f6 (hall' 6 (by decide))
    obtain rfl := hr.f7 (hall' 7 (by decide))
    obtain rfl := hr.f8 (hall' 8 (by decide))
    obtain rfl := hr.f9 (hall' 9 (by decide))
    obtain rfl := hr.f10 (hall' 10 (by decide))
    obtain rfl := hr.f11 (hall' 11 (by decide))
    obtain rfl := hr.f12 (hall' 12 (by decide))
    obtain rfl := hr.f13 (hall' 13 (by decide))
    obtain rfl := hr.f14 (hall' 14 (by decide))
    obtain rfl := hr.f15 (hall' 15 (by decide))
    obtain rfl := hr.f16 (hall' 16 (by decide))
    obtain rfl := hr.f17 (hall' 17 (by decide))
    obtain rfl := hr.f18 (hall' 18 (by decide))
    obtain ⟨N19, rfl, hN19, hrow19⟩ := hr.f19 (hall' 19 (by decide))
    obtain rfl := hr.f20 (hall' 20 (by decide))
    obtain rfl := hr.f21 (hall' 21 (by decide))
    have hgb := hr.gb
    clear hall hall' hr
    simp only [Act.put, List.setIfInBounds_toArray, List.set_cons_zero, List.set_cons_succ]
    have HB2 : Hid (Below w.heap.size w w') := HB1.out.trans (hgb.mono HB1.out.size)
    clear hgb
    go_wp2
    go_ret
    exact ⟨rfl, HB2.out⟩
  · intro ℓ a' w' i o hI ho hi hL hdep K hK
    obtain ⟨x10, x11, x12, x13, x14, x15, x16, x17, x18, x19, x20, x21, x22, x23, x24, x25, x26, x27, x28, x29, x30, x2, rfl, hr⟩ := hI
    have hi7 : i < 22 := hi
    have hcs : i = 0 ∨ i = 1 ∨ i = 2 ∨ i = 3 ∨ i = 4 ∨ i = 5 ∨ i = 6 ∨ i = 7 ∨ i = 8 ∨ i = 9 ∨ i = 10 ∨ i = 11 ∨ i = 12 ∨ i = 13 ∨ i = 14 ∨ i = 15 ∨ i = 16 ∨ i = 17 ∨ i = 18 ∨ i = 19 ∨ i = 20 ∨ i = 21 := by omega
    clear hi hi7
    rcases hcs with rfl | rfl | rfl | rfl | rfl | rfl | rfl | rfl | rfl | rfl | rfl | rfl | rfl | rfl | rfl | rfl | rfl | rfl | rfl | rfl | rfl | rfl
    · revert hK
      obtain rfl := Option.some.inj ho
      clear hdep ho
      have hgb := hr.gb
      intro hK
      rw [if_pos (by rfl)]
      try simp only [Act.put, List.setIfInBounds_toArray, List.set_cons_zero, List.set_cons_succ]
      go_simp
      exact hK.out _ _ (fun j => if j = 0 then true else ℓ j) ⟨(.pointer (some ⟨w.heap.size, 0, none⟩)), x11, x12, x13, x14, x15, x16, x17, x18, x19, x20, x21, x22, x23, x24, x25, x26, x27, x28, x29, x30, x2, (by simp only [Act.put, List.setIfInBounds_toArray, List.set_cons_zero, List.set_cons_succ]), ⟨hr.gb, (fun _ => rfl), hr.f1, hr.f2, hr.f3, hr.f4, hr.f5, hr.f6, hr.f7, hr.f8, hr.f9, hr.f10, hr.f11, hr.f12, hr.f13, hr.f14, hr.f15, hr.f16, hr.f17, hr.f18, hr.f19, hr.f20, hr.f21⟩⟩ (if_pos rfl) (fun j hj => if_neg hj)
    · revert hK
      obtain rfl := Option.some.inj ho
      have g0 : ℓ 0 = true := hdep { on := 0, ground := Ground.data } (by simp) rfl
      clear hdep ho
      have hgb := hr.gb
      obtain rfl := hr.f0 g0
      intro hK
      rw [if_pos (by rfl)]
      try simp only [Act.put, List.setIfInBounds_toArray, List.set_cons_zero, List.set_cons_succ]
      have cc := (hgb.cell (World.block_lt_of_cell? _ _ e0)).trans e0
      go_simp
      exact hK.out _ _ (fun j => if j = 1 then true else ℓ j) ⟨(.pointer (some ⟨w.heap.size, 0, none⟩)), (.int .i64 a), x12, x13, x14, x15, x16, x17, x18, x19, x20, x21, x22, x23, x24, x25, x26, x27, x28, x29, x30, x2, (by simp only [Act.put, List.setIfInBounds_toArray, List.set_cons_zero, List.set_cons_succ]), ⟨hr.gb, hr.f0, (fun _ => rfl), hr.f2, hr.f3, hr.f4, hr.f5, hr.f6, hr.f7, hr.f8, hr.f9, hr.f10, hr.f11, hr.f12, hr.f13, hr.f14, hr.f15, hr.f16, hr.f17, hr.f18, hr.f19, hr.f20, hr.f21⟩⟩ (if_pos rfl) (fun j hj => if_neg hj)
    · revert hK
      obtain rfl := Option.some.inj ho
      have g1 : ℓ 1 = true := hdep { on := 1, ground := Ground.data } (by simp) rfl
      clear hdep ho
      have hgb := hr.gb
      obtain rfl := hr.f1 g1
      intro hK
      rw [if_pos (by rfl)]
      try simp only [Act.put, List.setIfInBounds_toArray, List.set_cons_zero, List.set_cons_succ]
      go_simp
      go_at_call 20
      refine Calls.mono (K1.out _ (HB1.out.trans (hgb.mono HB1.out.size))) ?_
      rintro e w9 ⟨rfl, hb9⟩
      have hr9 := hr.below hb9
      exact hK.out _ _ (fun j => if j = 2 then true else ℓ j) ⟨x10, (.int .i64 a), (.string d1), x13, x14, x15, x16, x17, x18, x19, x20, x21, x22, x23, x24, x25, x26, x27, x28, x29, x30, x2, (by simp only [Act.put, List.setIfInBounds_toArray, List.set_cons_zero, List.set_cons_succ]), ⟨hr9.gb, hr9.f0, hr9.f1, (fun _ => rfl), hr9.f3, hr9.f4, hr9.f5, hr9.f6, hr9.f7, hr9.f8, hr9.f9, hr9.f10, hr9.f11, hr9.f12, hr9.f13, hr9.f14, hr9.f15, hr9.f16, hr9.f17, hr9.f18, hr9.f19, hr9.f20, hr9.f21⟩⟩ (if_pos rfl) (fun j hj => if_neg hj)
    · revert hK
      obtain rfl := Option.some.inj ho
      clear hdep ho
      have hgb := hr.gb
      intro hK
      rw [if_pos (by rfl)]
      try simp only [Act.put, List.setIfInBounds_toArray, List.set_cons_zero, List.set_cons_succ]
      go_simp
      exact hK.out _ _ (fun j => if j = 3 then true else ℓ j) ⟨x10, x11, x12, (.pointer (some ⟨w.heap.size, 1, none⟩)), x14, x15, x16, x17, x18, x19, x20, x21, x22, x23, x24, x25, x26, x27, x28, x29, x30, x2, (by simp only [Act.put, List.setIfInBounds_toArray, List.set_cons_zero, List.set_cons_succ]), ⟨hr.gb, hr.f0, hr.f1, hr.f2, (fun _ => rfl), hr.f4, hr.f5, hr.f6, hr.f7, hr.f8, hr.f9, hr.f10, hr.f11, hr.f12, hr.f13, hr.f14, hr.f15, hr.f16, hr.f17, hr.f18, hr.f19, hr.f20, hr.f21⟩⟩ (if_pos rfl) (fun j hj => if_neg hj)
    · revert hK
      obtain rfl := Option.some.inj ho
      have g3 : ℓ 3 = true := hdep { on := 3, ground := Ground.data } (by simp) rfl
      clear hdep ho
      have hgb := hr.gb
      obtain rfl := hr.f3 g3
      intro hK
      rw [if_pos (by rfl)]
      try simp only [Act.put, List.setIfInBounds_toArray, List.set_cons_zero, List.set_cons_succ]
      have cc := (hgb.cell (World.block_lt_of_cell? _ _ e1)).trans e1
      go_simp
      exact hK.out _ _ (fun j => if j = 4 then true else ℓ j) ⟨x10, x11, x12, (.pointer (some ⟨w.heap.size, 1, none⟩)), (.int .i64 c), x15, x16, x17, x18, x19, x20, x21, x22, x23, x24, x25, x26, x27, x28, x29, x30, x2, (by simp only [Act.put, List.setIfInBounds_toArray, List.set_cons_zero, List.set_cons_succ]), ⟨hr.gb, hr.f0, hr.f1, hr.f2, hr.f3, (fun _ => rfl), hr.f5, hr.f6, hr.f7, hr.f8, hr.f9, hr.f10, hr.f11, hr.f12, hr.f13, hr.f14, hr.f15, hr.f16, hr.f17, hr.f18, hr.f19, hr.f20, hr.f21⟩⟩ (if_pos rfl) (fun j hj => if_neg hj)
    · revert hK
      obtain rfl := Option.some.inj ho
      have g4 : ℓ 4 = true := hdep { on := 4, ground := Ground.data } (by simp) rfl
      clear hdep ho
      have hgb := hr.gb
      obtain rfl := hr.f4 g4
      intro hK
      rw [if_pos (by rfl)]
      try simp only [Act.put, List.setIfInBounds_toArray, List.set_cons_zero, List.set_cons_succ]
      go_simp
      go_at_call 20
      refine Calls.mono (K2.out _ (HB1.out.trans (hgb.mono HB1.out.size))) ?_
      rintro e w9 ⟨rfl, hb9⟩
      have hr9 := hr.below hb9
      exact hK.out _ _ (fun j => if j = 5 then true else ℓ j) ⟨x10, x11, x12, x13, (.int .i64 c), (.string d2), x16, x17, x18, x19, x20, x21, x22, x23, x24, x25, x26, x27, x28, x29, x30, x2, (by simp only [Act.put, List.setIfInBounds_toArray, List.set_cons_zero, List.set_cons_succ]), ⟨hr9.gb, hr9.f0, hr9.f1, hr9.f2, hr9.f3, hr9.f4, (fun _ => rfl), hr9.f6, hr9.f7, hr9.f8, hr9.f9, hr9.f10, hr9.f11, hr9.f12, hr9.f13, hr9.f14, hr9.f15, hr9.f16, hr9.f17, hr9.f18, hr9.f19, hr9.f20, hr9.f21⟩⟩ (if_pos rfl) (fun j hj => if_neg hj)
    · revert hK
      obtain rfl := Option.some.inj ho
      clear hdep ho
      have hgb := hr.gb
      intro hK
      rw [if_pos (by rfl)]
      try simp only [Act.put, List.setIfInBounds_toArray, List.set_cons_zero, List.set_cons_succ]
      go_simp
      exact hK.out _ _ (fun j => if j = 6 then true else ℓ j) ⟨x10, x11, x12, x13, x14, x15, (.pointer (some ⟨w.heap.size, 2, none⟩)), x17, x18, x19, x20, x21, x22, x23, x24, x25, x26, x27, x28, x29, x30, x2, (by simp only [Act.put, List.setIfInBounds_toArray, List.set_cons_zero, List.set_cons_succ]), ⟨hr.gb, hr.f0, hr.f1, hr.f2, hr.f3, hr.f4, hr.f5, (fun _ => rfl), hr.f7, hr.f8, hr.f9, hr.f10, hr.f11, hr.f12, hr.f13, hr.f14, hr.f15, hr.f16, hr.f17, hr.f18, hr.f19, hr.f20, hr.f21⟩⟩ (if_pos rfl) (fun j hj => if_neg hj)
    · revert hK
      obtain rfl := Option.some.inj ho
      have g6 : ℓ 6 = true := hdep { on := 6, ground := Ground.data } (by simp) rfl
      clear hdep ho
      have hgb := hr.gb
      obtain rfl := hr.f6 g6
      intro hK
      rw [if_pos (by rfl)]
      try simp only [Act.put, List.setIfInBounds_toArray, List.set_cons_zero, List.set_cons_succ]
      have cc := (hgb.cell (World.block_lt_of_cell? _ _ e2)).trans e2
      go_simp
      exact hK.out _ _ (fun j => if j = 7 then true else ℓ j) ⟨x10, x11, x12, x13, x14, x15, (.pointer (some ⟨w.heap.size, 2, none⟩)), (.int .u32 p), x18, x19, x20, x21, x22, x23, x24, x25, x26, x27, x28, x29, x30, x2, (by simp only [Act.put, List.setIfInBounds_toArray, List.set_cons_zero, List.set_cons_succ]), ⟨hr.gb, hr.f0, hr.f1, hr.f2, hr.f3, hr.f4, hr.f5, hr.f6, (fun _ => rfl), hr.f8, hr.f9, hr.f10, hr.f11, hr.f12, hr.f13, hr.f14, hr.f15, hr.f16, hr.f17, hr.f18, hr.f19, hr.f20, hr.f21⟩⟩ (if_pos rfl) (fun j hj => if_neg hj)
    · revert hK
      obtain rfl := Option.some.inj ho
      have g7 : ℓ 7 = true := hdep { on := 7, ground := Ground.data } (by simp) rfl
      clear hdep ho
      have hgb := hr.gb
      obtain rfl := hr.f7 g7
      intro hK
      rw [if_pos (by rfl)]
      try simp only [Act.put, List.setIfInBounds_toArray, List.set_cons_zero, List.set_cons_succ]
      go_simp
      go_at_call 21
      refine Calls.mono (K3.out _ (HB1.out.trans (hgb.mono HB1.out.size))) ?_
      rintro e w9 ⟨rfl, hb9⟩
      have hr9 := hr.below hb9
      exact hK.out _ _ (fun j => if j = 8 then true else ℓ j) ⟨x10, x11, x12, x13, x14, x15, x16, (.int .u32 p), (.string h3), x19, x20, x21, x22, x23, x24, x25, x26, x27, x28, x29, x30, x2, (by simp only [Act.put, List.setIfInBounds_toArray, List.set_cons_zero, List.set_cons_succ]), ⟨hr9.gb, hr9.f0, hr9.f1, hr9.f2, hr9.f3, hr9.f4, hr9.f5, hr9.f6, hr9.f7, (fun _ => rfl), hr9.f9, hr9.f10, hr9.f11, hr9.f12, hr9.f13, hr9.f14, hr9.f15, hr9.f16, hr9.f17, hr9.f18, hr9.f19, hr9.f20, hr9.f21⟩⟩ (if_pos rfl) (fun j hj => if_neg hj)
    · revert hK
      obtain rfl := Option.some.inj ho
      clear hdep ho
      have hgb := hr.gb
      intro hK
      rw [if_pos (by rfl)]
      try simp only [Act.put, List.setIfInBounds_toArray, List.set_cons_zero, List.set_cons_succ]
      go_simp
      exact hK.out _ _ (fun j => if j = 9 then true else ℓ j) ⟨x10, x11, x12, x13, x14, x15, x16, x17, x18, (.string q), x20, x21, x22, x23, x24, x25, x26, x27, x28, x29, x30, x2, (by simp only [Act.put, List.setIfInBounds_toArray, List.set_cons_zero, List.set_cons_succ]), ⟨hr.gb, hr.f0, hr.f1, hr.f2, hr.f3, hr.f4, hr.f5, hr.f6, hr.f7, hr.f8, (fun _ => rfl), hr.f10, hr.f11, hr.f12, hr.f13, hr.f14, hr.f15, hr.f16, hr.f17, hr.f18, hr.f19, hr.f20, hr.f21⟩⟩ (if_pos rfl) (fun j hj => if_neg hj)
    · revert hK
      obtain rfl := Option.some.inj ho
      clear hdep ho
      have hgb := hr.gb
      intro hK
      rw [if_pos (by rfl)]
      try simp only [Act.put, List.setIfInBounds_toArray, List.set_cons_zero, List.set_cons_succ]
      go_simp
      exact hK.out _ _ (fun j => if j = 10 then true else ℓ j) ⟨x10, x11, x12, x13, x14, x15, x16, x17, x18, x19, (.pointer (some ⟨w.heap.size, 4, none⟩)), x21, x22, x23, x24, x25, x26, x27, x28, x29, x30, x2, (by simp only [Act.put, List.setIfInBounds_toArray, List.set_cons_zero, List.set_cons_succ]), ⟨hr.gb, hr.f0, hr.f1, hr.f2, hr.f3, hr.f4, hr.f5, hr.f6, hr.f7, hr.f8, hr.f9, (fun _ => rfl), hr.f11, hr.f12, hr.f13, hr.f14, hr.f15, hr.f16, hr.f17, hr.f18, hr.f19, hr.f20, hr.f21⟩⟩ (if_pos rfl) (fun j hj => if_neg hj)
    · revert hK
      obtain rfl := Option.some.inj ho
      have g10 : ℓ 10 = true := hdep { on := 10, ground := Ground.data } (by simp) rfl
      clear hdep ho
      have hgb := hr.gb
      obtain rfl := hr.f10 g10
      intro hK
      rw [if_pos (by rfl)]
      try simp only [Act.put, List.setIfInBounds_toArray, List.set_cons_zero, List.set_cons_succ]
      have cc := (hgb.cell (World.block_lt_of_cell? _ _ e4)).trans e4
      go_simp
      exact hK.out _ _ (fun j => if j = 11 then true else ℓ j) ⟨x10, x11, x12, x13, x14, x15, x16, x17, x18, x19, (.pointer (some ⟨w.heap.size, 4, none⟩)), (.int .i64 f), x22, x23, x24, x25, x26, x27, x28, x29, x30, x2, (by simp only [Act.put, List.setIfInBounds_toArray, List.set_cons_zero, List.set_cons_succ]), ⟨hr.gb, hr.f0, hr.f1, hr.f2, hr.f3, hr.f4, hr.f5, hr.f6, hr.f7, hr.f8, hr.f9, hr.f10, (fun _ => rfl), hr.f12, hr.f13, hr.f14, hr.f15, hr.f16, hr.f17, hr.f18, hr.f19, hr.f20, hr.f21⟩⟩ (if_pos rfl) (fun j hj => if_neg hj)
    · revert hK
      obtain rfl := Option.some.inj ho
      have g11 : ℓ 11 = true := hdep { on := 11, ground := Ground.data } (by simp) rfl
      clear hdep ho
      have hgb := hr.gb
      obtain rfl := hr.f11 g11
      intro hK
      rw [if_pos (by rfl)]
      try simp only [Act.put, List.setIfInBounds_toArray, List.set_cons_zero, List.set_cons_succ]
      go_simp
      go_at_call 20
      refine Calls.mono (K4.out _ (HB1.out.trans (hgb.mono HB1.out.size))) ?_
      rintro e w9 ⟨rfl, hb9⟩
      have hr9 := hr.below hb9
      exact hK.out _ _ (fun j => if j = 12 then true else ℓ j) ⟨x10, x11, x12, x13, x14, x15, x16, x17, x18, x19, x20, (.int .i64 f), (.string d4), x23, x24, x25, x26, x27, x28, x29, x30, x2, (by simp only [Act.put, List.setIfInBounds_toArray, List.set_cons_zero, List.set_cons_succ]), ⟨hr9.gb, hr9.f0, hr9.f1, hr9.f2, hr9.f3, hr9.f4, hr9.f5, hr9.f6, hr9.f7, hr9.f8, hr9.f9, hr9.f10, hr9.f11, (fun _ => rfl), hr9.f13, hr9.f14, hr9.f15, hr9.f16, hr9.f17, hr9.f18, hr9.f19, hr9.f20, hr9.f21⟩⟩ (if_pos rfl) (fun j hj => if_neg hj)
    · revert hK
      obtain rfl := Option.some.inj ho
      clear hdep ho
      have hgb := hr.gb
      intro hK
      rw [if_pos (by rfl)]
      try simp only [Act.put, List.setIfInBounds_toArray, List.set_cons_zero, List.set_cons_succ]
      go_simp
      exact hK.out _ _ (fun j => if j = 13 then true else ℓ j) ⟨x10, x11, x12, x13, x14, x15, x16, x17, x18, x19, x20, x21, x22, (.pointer (some ⟨w.heap.size, 5, none⟩)), x24, x25, x26, x27, x28, x29, x30, x2, (by simp only [Act.put, List.setIfInBounds_toArray, List.set_cons_zero, List.set_cons_succ]), ⟨hr.gb, hr.f0, hr.f1, hr.f2, hr.f3, hr.f4, hr.f5, hr.f6, hr.f7, hr.f8, hr.f9, hr.f10, hr.f11, hr.f12, (fun _ => rfl), hr.f14, hr.f15, hr.f16, hr.f17, hr.f18, hr.f19, hr.f20, hr.f21⟩⟩ (if_pos rfl) (fun j hj => if_neg hj)
    · revert hK
      obtain rfl := Option.some.inj ho
      have g13 : ℓ 13 = true := hdep { on := 13, ground := Ground.data } (by simp) rfl
      clear hdep ho
      have hgb := hr.gb
      obtain rfl := hr.f13 g13
      intro hK
      rw [if_pos (by rfl)]
      try simp only [Act.put, List.setIfInBounds_toArray, List.set_cons_zero, List.set_cons_succ]
      have cc := (hgb.cell (World.block_lt_of_cell? _ _ e5)).trans e5
      go_simp
      exact hK.out _ _ (fun j => if j = 14 then true else ℓ j) ⟨x10, x11, x12, x13, x14, x15, x16, x17, x18, x19, x20, x21, x22, (.pointer (some ⟨w.heap.size, 5, none⟩)), (.int .i64 u), x25, x26, x27, x28, x29, x30, x2, (by simp only [Act.put, List.setIfInBounds_toArray, List.set_cons_zero, List.set_cons_succ]), ⟨hr.gb, hr.f0, hr.f1, hr.f2, hr.f3, hr.f4, hr.f5, hr.f6, hr.f7, hr.f8, hr.f9, hr.f10, hr.f11, hr.f12, hr.f13, (fun _ => rfl), hr.f15, hr.f16, hr.f17, hr.f18, hr.f19, hr.f20, hr.f21⟩⟩ (if_pos rfl) (fun j hj => if_neg hj)
    · revert hK
      obtain rfl := Option.some.inj ho
      have g14 : ℓ 14 = true := hdep { on := 14, ground := Ground.data } (by simp) rfl
      clear hdep ho
      have hgb := hr.gb
      obtain rfl := hr.f14 g14
      intro hK
      rw [if_pos (by rfl)]
      try simp only [Act.put, List.setIfInBounds_toArray, List.set_cons_zero, List.set_cons_succ]
      go_simp
      go_at_call 20
      refine Calls.mono (K5.out _ (HB1.out.trans (hgb.mono HB1.out.size))) ?_
      rintro e w9 ⟨rfl, hb9⟩
      have hr9 := hr.below hb9
      exact hK.out _ _ (fun j => if j = 15 then true else ℓ j) ⟨x10, x11, x12, x13, x14, x15, x16, x17, x18, x19, x20, x21, x22, x23, (.int .i64 u), (.string d5), x26, x27, x28, x29, x30, x2, (by simp only [Act.put, List.setIfInBounds_toArray, List.set_cons_zero, List.set_cons_succ]), ⟨hr9.gb, hr9.f0, hr9.f1, hr9.f2, hr9.f3, hr9.f4, hr9.f5, hr9.f6, hr9.f7, hr9.f8, hr9.f9, hr9.f10, hr9.f11, hr9.f12, hr9.f13, hr9.f14, (fun _ => rfl), hr9.f16, hr9.f17, hr9.f18, hr9.f19, hr9.f20, hr9.f21⟩⟩ (if_pos rfl) (fun j hj => if_neg hj)
    · revert hK
      obtain rfl := Option.some.inj ho
      clear hdep ho
      have hgb := hr.gb
      intro hK
      rw [if_pos (by rfl)]
      try simp only [Act.put, List.setIfInBounds_toArray, List.set_cons_zero, List.set_cons_succ]
      go_simp
      exact hK.out _ _ (fun j => if j = 16 then true else ℓ j) ⟨x10, x11, x12, x13, x14, x15, x16, x17, x18, x19, x20, x21, x22, x23, x24, x25, (.pointer (some ⟨w.heap.size, 6, none⟩)), x27, x28, x29, x30, x2, (by simp only [Act.put, List.setIfInBounds_toArray, List.set_cons_zero, List.set_cons_succ]), ⟨hr.gb, hr.f0, hr.f1, hr.f2, hr.f3, hr.f4, hr.f5, hr.f6, hr.f7, hr.f8, hr.f9, hr.f10, hr.f11, hr.f12, hr.f13, hr.f14, hr.f15, (fun _ => rfl), hr.f17, hr.f18, hr.f19, hr.f20, hr.f21⟩⟩ (if_pos rfl) (fun j hj => if_neg hj)
    · revert hK
      obtain rfl := Option.some.inj ho
      have g16 : ℓ 16 = true := hdep { on := 16, ground := Ground.data } (by simp) rfl
      clear hdep ho
      have hgb := hr.gb
      obtain rfl := hr.f16 g16
      intro hK
      rw [if_pos (by rfl)]
      try simp only [Act.put, List.setIfInBounds_toArray, List.set_cons_zero, List.set_cons_succ]
      have cc := (hgb.cell (World.block_lt_of_cell? _ _ e6)).trans e6
      go_simp
      exact hK.out _ _ (fun j => if j = 17 then true else ℓ j) ⟨x10, x11, x12, x13, x14, x15, x16, x17, x18, x19, x20, x21, x22, x23, x24, x25, (.pointer (some ⟨w.heap.size, 6, none⟩)), (.int .u32 s), x28, x29, x30, x2, (by simp only [Act.put, List.setIfInBounds_toArray, List.set_cons_zero, List.set_cons_succ]), ⟨hr.gb, hr.f0, hr.f1, hr.f2, hr.f3, hr.f4, hr.f5, hr.f6, hr.f7, hr.f8, hr.f9, hr.f10, hr.f11, hr.f12, hr.f13, hr.f14, hr.f15, hr.f16, (fun _ => rfl), hr.f18, hr.f19, hr.f20, hr.f21⟩⟩ (if_pos rfl) (fun j hj => if_neg hj)
    · revert hK
      obtain rfl := Option.some.inj ho
      have g17 : ℓ 17 = true := hdep { on := 17, ground := Ground.data } (by simp) rfl
      clear hdep ho
      have hgb := hr.gb
      obtain rfl := hr.f17 g17
      intro hK
      rw [if_pos (by rfl)]
      try simp only [Act.put, List.setIfInBounds_toArray, List.set_cons_zero, List.set_cons_succ]
      go_simp
      go_at_call 21
      refine Calls.mono (K6.out _ (HB1.out.trans (hgb.mono HB1.out.size))) ?_
      rintro e w9 ⟨rfl, hb9⟩
      have hr9 := hr.below hb9
      exact hK.out _ _ (fun j => if j = 18 then true else ℓ j) ⟨x10, x11, x12, x13, x14, x15, x16, x17, x18, x19, x20, x21, x22, x23, x24, x25, x26, (.int .u32 s), (.string h6), x29, x30, x2, (by simp only [Act.put, List.setIfInBounds_toArray, List.set_cons_zero, List.set_cons_succ]), ⟨hr9.gb, hr9.f0, hr9.f1, hr9.f2, hr9.f3, hr9.f4, hr9.f5, hr9.f6, hr9.f7, hr9.f8, hr9.f9, hr9.f10, hr9.f11, hr9.f12, hr9.f13, hr9.f14, hr9.f15, hr9.f16, hr9.f17, (fun _ => rfl), hr9.f19, hr9.f20, hr9.f21⟩⟩ (if_pos rfl) (fun j hj => if_neg hj)
    · revert hK
      obtain rfl := Option.some.inj ho
      have g2 : ℓ 2 = true := hdep { on := 2, ground := Ground.data } (by simp) rfl
      have g5 : ℓ 5 = true := hdep { on := 5, ground := Ground.data } (by simp) rfl
      have g8 : ℓ 8 = true := hdep { on := 8, ground := Ground.data } (by simp) rfl
      have g9 : ℓ 9 = true := hdep { on := 9, ground := Ground.data } (by simp) rfl
      have g12 : ℓ 12 = true := hdep { on := 12, ground := Ground.data } (by simp) rfl
      have g15 : ℓ 15 = true := hdep { on := 15, ground := Ground.data } (by simp) rfl
      have g18 : ℓ 18 = true := hdep { on := 18, ground := Ground.data } (by simp) rfl
      clear hdep ho
      have hgb := hr.gb
      obtain rfl := hr.f2 g2
      obtain rfl := hr.f5 g5
      obtain rfl := hr.f8 g8
      obtain rfl := hr.f9 g9
      obtain rfl := hr.f12 g12
      obtain rfl := hr.f15 g15
      obtain rfl := hr.f18 g18
      intro hK
      rw [if_pos (by rfl)]
      try simp only [Act.put, List.setIfInBounds_toArray, List.set_cons_zero, List.set_cons_succ]
      have hr9 := hr.below (w9 := w'.alloc (.cells (#[.string d1, .string d2, .string h3, .string q, .string d4, .string d5, .string h6]) 9)) ((Below.refl _ _).alloc (Nat.le_refl _) _)
      go_simp
      exact hK.out _ _ (fun j => if j = 19 then true else ℓ j) ⟨x10, x11, (.string d1), x13, x14, (.string d2), x16, x17, (.string h3), (.string q), x20, x21, (.string d4), x23, x24, (.string d5), x26, x27, (.string h6), (.slice (some ⟨w'.heap.size, 0, none⟩) 7 7), x30, x2, (by simp only [Act.put, List.setIfInBounds_toArray, List.set_cons_zero, List.set_cons_succ]), ⟨hr9.gb, hr9.f0, hr9.f1, hr9.f2, hr9.f3, hr9.f4, hr9.f5, hr9.f6, hr9.f7, hr9.f8, hr9.f9, hr9.f10, hr9.f11, hr9.f12, hr9.f13, hr9.f14, hr9.f15, hr9.f16, hr9.f17, hr9.f18, (fun _ => ⟨w'.heap.size, rfl, hgb.size, new_row w' _ _ _ rfl⟩), hr9.f20, hr9.f21⟩⟩ (if_pos rfl) (fun j hj => if_neg hj)
    · revert hK
      obtain rfl := Option.some.inj ho
      have g19 : ℓ 19 = true := hdep { on := 19, ground := Ground.data } (by simp) rfl
      clear hdep ho
      have hgb := hr.gb
      obtain ⟨N, rfl, hN, hrow⟩ := hr.f19 g19
      intro hK
      rw [if_pos (by rfl)]
      try simp only [Act.put, List.setIfInBounds_toArray, List.set_cons_zero, List.set_cons_succ]
      go_simp
      go_at_call 19
      refine Calls.mono (KJ.out _ _ hrow) ?_
      rintro e w9 ⟨rfl, hb9⟩
      have hr9 := hr.below hb9
      exact hK.out _ _ (fun j => if j = 20 then true else ℓ j) ⟨x10, x11, x12, x13, x14, x15, x16, x17, x18, x19, x20, x21, x22, x23, x24, x25, x26, x27, x28, (.slice (some ⟨N, 0, none⟩) 7 7), (.string r), x2, (by simp only [Act.put, List.setIfInBounds_toArray, List.set_cons_zero, List.set_cons_succ]), ⟨hr9.gb, hr9.f0, hr9.f1, hr9.f2, hr9.f3, hr9.f4, hr9.f5, hr9.f6, hr9.f7, hr9.f8, hr9.f9, hr9.f10, hr9.f11, hr9.f12, hr9.f13, hr9.f14, hr9.f15, hr9.f16, hr9.f17, hr9.f18, hr9.f19, (fun _ => rfl), hr9.f21⟩⟩ (if_pos rfl) (fun j hj => if_neg hj)
    · revert hK
      obtain rfl := Option.some.inj ho
      have g20 : ℓ 20 = true := hdep { on := 20, ground := Ground.data } (by simp) rfl
      clear hdep ho
      have hgb := hr.gb
      obtain rfl := hr.f20 g20
      intro hK
      rw [if_pos (by rfl)]
      try simp only [Act.put, List.setIfInBounds_toArray, List.set_cons_zero, List.set_cons_succ]
      go_simp
      exact hK.out _ _ (fun j => if j = 21 then true else ℓ j) ⟨x10, x11, x12, x13, x14, x15, x16, x17, x18, x19, x20, x21, x22, x23, x24, x25, x26, x27, x28, x29, (.string r), (.string r), (by simp only [Act.put, List.setIfInBounds_toArray, List.set_cons_zero, List.set_cons_succ]), ⟨hr.gb, hr.f0, hr.f1, hr.f2, hr.f3, hr.f4, hr.f5, hr.f6, hr.f7, hr.f8, hr.f9, hr.f10, hr.f11, hr.f12, hr.f13, hr.f14, hr.f15, hr.f16, hr.f17, hr.f18, hr.f19, hr.f20, (fun _ => rfl)⟩⟩ (if_pos rfl) (fun j hj => if_neg hj)
  · rintro a' w' ℓ ℓ' hℓ hI
    rw [← show ℓ = ℓ' from funext hℓ]
    exact hI
set_option maxRecDepth 40000 in
set_option maxHeartbeats 8000000 in
theorem impl_evt_no (a c p f u s : Int) (o : Int) (d1 d2 h3 q d4 d5 h6 r : ByteArray) (w : World) (ho : ¬ (0 ≤ o ∧ o < 33)) (hq : Ex.dash = q)
    (K1 : Hid (∀ X, Below w.heap.size w X → Calls Tryd.prog 20 #[.int .i64 a] X fun e w' => e = .returned (.string d1) ∧ Below X.heap.size X w'))
    (K2 : Hid (∀ X, Below w.heap.size w X → Calls Tryd.prog 20 #[.int .i64 c] X fun e w' => e = .returned (.string d2) ∧ Below X.heap.size X w'))
    (K3 : Hid (∀ X, Below w.heap.size w X → Calls Tryd.prog 21 #[.int .u32 p] X fun e w' => e = .returned (.string h3) ∧ Below X.heap.size X w'))
    (K4 : Hid (∀ X, Below w.heap.size w X → Calls Tryd.prog 20 #[.int .i64 f] X fun e w' => e = .returned (.string d4) ∧ Below X.heap.size X w'))
    (K5 : Hid (∀ X, Below w.heap.size w X → Calls Tryd.prog 20 #[.int .i64 u] X fun e w' => e = .returned (.string d5) ∧ Below X.heap.size X w'))
    (K6 : Hid (∀ X, Below w.heap.size w X → Calls Tryd.prog 21 #[.int .u32 s] X fun e w' => e = .returned (.string h6) ∧ Below X.heap.size X w'))
    (KJ : Hid (∀ N X, X.heap[N]? = some (.cells #[.string d1, .string d2, .string h3, .string q, .string d4, .string d5, .string h6] 9 (0, 0)) → Calls Tryd.prog 19 #[.slice (some ⟨N, 0, none⟩) 7 7, .string ⟨#[32]⟩] X fun e w' => e = .returned (.string r) ∧ Below X.heap.size X w')) :
    Calls Tryd.prog 8 #[.agg #[.int .i64 a, .int .i64 c, .int .u32 p, .int .i64 o, .int .i64 f, .int .i64 u, .int .u32 s]] w fun e w' => e = .returned (.string r) ∧ Below w.heap.size w w' := by
  have HR : Hid (CellsAt (w.alloc (.cells #[.int .i64 a, .int .i64 c, .int .u32 p, .int .i64 o, .int .i64 f, .int .i64 u, .int .u32 s] 26)) w.heap.size 0 [.int .i64 a, .int .i64 c, .int .u32 p, .int .i64 o, .int .i64 f, .int .i64 u, .int .u32 s]) := CellsAt.new w [.int .i64 a, .int .i64 c, .int .u32 p, .int .i64 o, .int .i64 f, .int .i64 u, .int .u32 s] 26 _ rfl
  have HB1 : Hid (Below w.heap.size w (w.alloc (.cells #[.int .i64 a, .int .i64 c, .int .u32 p, .int .i64 o, .int .i64 f, .int .i64 u, .int .u32 s] 26))) := (Below.refl _ _).alloc (Nat.le_refl _) _
  have e0 := cell0 HR.out 0 rfl
  have e1 := cell0 HR.out 1 rfl
  have e2 := cell0 HR.out 2 rfl
  have e3 := cell0 HR.out 3 rfl
  have e4 := cell0 HR.out 4 rfl
  have e5 := cell0 HR.out 5 rfl
  have e6 := cell0 HR.out 6 rfl
  have HI : Hid (∀ X, Calls Tryd.prog 17 #[.int .i64 o] X fun e w' => e = .returned (.bool false) ∧ w' = X) := fun X => isOp_no _ X ho
  have HQ : Hid (Ex.dash = q) := hq
  clear ho hq
  go_enter Tryd.func8, Tryd.ntmps8
  go_wp2_with fail
  refine (HI.out _).mono ?_
  rintro e w7 ⟨rfl, rfl⟩
  go_wp2
  rw [show (⟨#[45]⟩ : ByteArray) = q from HQ.out]
  generalize w.alloc (.cells #[.int .i64 a, .int .i64 c, .int .u32 p, .int .i64 o, .int .i64 f, .int .i64 u, .int .u32 s] 26) = W1 at e0 e1 e2 e3 e4 e5 e6 HB1 ⊢
  clear HR
  refine wp_region_inv (by kernel_rfl) (by kernel_rfl) (fun A ℓ a' w' => ∃ (x10 x11 x12 x13 x14 x15 x16 x17 x18 x19 x20 x21 x22 x23 x24 x25 x26 x27 x28 x29 x30 x2 : Value), a' = ((((((((((((((((((((((A.put (some 10) x10).put (some 11) x11).put (some 12) x12).put (some 13) x13).put (some 14) x14).put (some 15) x15).put (some 16) x16).put (some 17) x17).put (some 18) x18).put (some 19) x19).put (some 20) x20).put (some 21) x21).put (some 22) x22).put (some 23) x23).put (some 24) x24).put (some 25) x25).put (some 26) x26).put (some 27) x27).put (some 28) x28).put (some 29) x29).put (some 30) x30).put (some 2) x2) ∧ EvR (W1) (a) (c) (p) (f) (u) (s) (d1) (d2) (h3) (q) (d4) (d5) (h6) (r) (w.heap.size) w' (ℓ 0) (ℓ 1) (ℓ 2) (ℓ 3) (ℓ 4) (ℓ 5) (ℓ 6) (ℓ 7) (ℓ 8) (ℓ 9) (ℓ 10) (ℓ 11) (ℓ 12) (ℓ 13) (ℓ 14) (ℓ 15) (ℓ 16) (ℓ 17) (ℓ 18) (ℓ 19) (ℓ 20) (ℓ 21) x10 x11 x12 x13 x14 x15 x16 x17 x18 x19 x20 x21 x22 x23 x24 x25 x26 x27 x28 x29 x30 x2) ?_ ?_ ?_ ?_
  · exact ⟨undef, undef, undef, undef, undef, undef, undef, undef, undef, undef, undef, undef, undef, undef, undef, undef, undef, undef, undef, undef, undef, (.string ⟨#[]⟩), (by simp only [Act.put, List.setIfInBounds_toArray, List.set_cons_zero, List.set_cons_succ]), ⟨(Below.refl _ _).drew, (fun g => by cases g), (fun g => by cases g), (fun g => by cases g), (fun g => by cases g), (fun g => by cases g), (fun g => by cases g), (fun g => by cases g), (fun g => by cases g), (fun g => by cases g), (fun g => by cases g), (fun g => by cases g), (fun g => by cases g), (fun g => by cases g), (fun g => by cases g), (fun g => by cases g), (fun g => by cases g), (fun g => by cases g), (fun g => by cases g), (fun g => by cases g), (fun g => by cases g), (fun g => by cases g), (fun g => by cases g)⟩⟩
  · intro ℓ a' w' hI hall
    obtain ⟨x10, x11, x12, x13, x14, x15, x16, x17, x18, x19, x20, x21, x22, x23, x24, x25, x26, x27, x28, x29, x30, x2, rfl, hr⟩ := hI
    have hall' : ∀ i, i < 22 → ℓ i = true := hall
    obtain rfl := hr.f0 (hall' 0 (by decide))
    obtain rfl := hr.f1 (hall' 1 (by decide))
    obtain rfl := hr.f2 (hall' 2 (by decide))
    obtain rfl := hr.f3 (hall' 3 (by decide))
    obtain rfl := hr.f4 (hall' 4 (by decide))
    obtain rfl := hr.f5 (hall' 5 (by decide))
    obtain rfl := hr.f6 (hall' 6 (by decide))
    obtain rfl := hr.f7 (hall' 7 (by decide))
    obtain rfl := hr.f8 (hall' 8 (by decide))
    obtain rfl := hr.f9 (hall' 9 (by decide))
    obtain rfl := hr.f10 (hall' 10 (by decide))
    obtain rfl := hr.f11 (hall' 11 (by decide))
    obtain rfl := hr.f12 (hall' 12 (by decide))
    obtain rfl := hr.f13 (hall' 13 (by decide))
    obtain rfl := hr.f14 (hall' 14 (by decide))
    obtain rfl := hr.f15 (hall' 15 (by decide))
    obtain rfl := hr.f16 (hall' 16 (by decide))
    obtain rfl := hr.f17 (hall' 17 (by decide))
    obtain rfl := hr.f18 (hall' 18 (by decide))
    obtain ⟨N19, rfl, hN19, hrow19⟩ := hr.f19 (hall' 19 (by decide))
    obtain rfl := hr.f20 (hall' 20 (by decide))
    obtain rfl := hr.f21 (hall' 21 (by decide))
    have hgb := hr.gb
    clear hall hall' hr
    simp only [Act.put, List.setIfInBounds_toArray, List.set_cons_zero, List.set_cons_succ]
    have HB2 : Hid (Below w.heap.size w w') := HB1.out.trans (hgb.mono HB1.out.size)
    clear hgb
    go_wp2
    go_ret
    exact ⟨rfl, HB2.out⟩
  · intro ℓ a' w' i o hI ho hi hL hdep K hK
    obtain ⟨x10, x11, x12, x13, x14, x15, x16, x17, x18, x19, x20, x21, x22, x23, x24, x25, x26, x27, x28, x29, x30, x2, rfl, hr⟩ := hI
    have hi7 : i < 22 := hi
    have hcs : i = 0 ∨ i = 1 ∨ i = 2 ∨ i = 3 ∨ i = 4 ∨ i = 5 ∨ i = 6 ∨ i = 7 ∨ i = 8 ∨ i = 9 ∨ i = 10 ∨ i = 11 ∨ i = 12 ∨ i = 13 ∨ i = 14 ∨ i = 15 ∨ i = 16 ∨ i = 17 ∨ i = 18 ∨ i = 19 ∨ i = 20 ∨ i = 21 := by omega
    clear hi hi7
    rcases hcs with rfl | rfl | rfl | rfl | rfl | rfl | rfl | rfl | rfl | rfl | rfl | rfl | rfl | rfl | rfl | rfl | rfl | rfl | rfl | rfl | rfl | rfl
    · revert hK
      obtain rfl := Option.some.inj ho
      clear hdep ho
      have hgb := hr.gb
      intro hK
      rw [if_pos (by rfl)]
      try simp only [Act.put, List.setIfInBounds_toArray, List.set_cons_zero, List.set_cons_succ]
      go_simp
      exact hK.out _ _ (fun j => if j = 0 then true else ℓ j) ⟨(.pointer (some ⟨w.heap.size, 0, none⟩)), x11, x12, x13, x14, x15, x16, x17, x18, x19, x20, x21, x22, x23, x24, x25, x26, x27, x28, x29, x30, x2, (by simp only [Act.put, List.setIfInBounds_toArray, List.set_cons_zero, List.set_cons_succ]), ⟨hr.gb, (fun _ => rfl), hr.f1, hr.f2, hr.f3, hr.f4, hr.f5, hr.f6, hr.f7, hr.f8, hr.f9, hr.f10, hr.f11, hr.f12, hr.f13, hr.f14, hr.f15, hr.f16, hr.f17, hr.f18, hr.f19, hr.f20, hr.f21⟩⟩ (if_pos rfl) (fun j hj => if_neg hj)
    · revert hK
      obtain rfl := Option.some.inj ho
      have g0 : ℓ 0 = true := hdep { on := 0, ground := Ground.data } (by simp) rfl
      clear hdep ho
      have hgb := hr.gb
      obtain rfl := hr.f0 g0
      intro hK
      rw [if_pos (by rfl)]
      try simp only [Act.put, List.setIfInBounds_toArray, List.set_cons_zero, List.set_cons_succ]
      have cc := (hgb.cell (World.block_lt_of_cell? _ _ e0)).trans e0
      go_simp
      exact hK.out _ _ (fun j => if j = 1 then true else ℓ j) ⟨(.pointer (some ⟨w.heap.size, 0, none⟩)), (.int .i64 a), x12, x13, x14, x15, x16, x17, x18, x19, x20, x21, x22, x23, x24, x25, x26, x27, x28, x29, x30, x2, (by simp only [Act.put, List.setIfInBounds_toArray, List.set_cons_zero, List.set_cons_succ]), ⟨hr.gb, hr.f0, (fun _ => rfl), hr.f2, hr.f3, hr.f4, hr.f5, hr.f6, hr.f7, hr.f8, hr.f9, hr.f10, hr.f11, hr.f12, hr.f13, hr.f14, hr.f15, hr.f16, hr.f17, hr.f18, hr.f19, hr.f20, hr.f21⟩⟩ (if_pos rfl) (fun j hj => if_neg hj)
    · revert hK
      obtain rfl := Option.some.inj ho
      have g1 : ℓ 1 = true := hdep { on := 1, ground := Ground.data } (by simp) rfl
      clear hdep ho
      have hgb := hr.gb
      obtain rfl := hr.f1 g1
      intro hK
      rw [if_pos (by rfl)]
      try simp only [Act.put, List.setIfInBounds_toArray, List.set_cons_zero, List.set_cons_succ]
      go_simp
      go_at_call 20
      refine Calls.mono (K1.out _ (HB1.out.trans (hgb.mono HB1.out.size))) ?_
      rintro e w9 ⟨rfl, hb9⟩
      have hr9 := hr.below hb9
      exact hK.out _ _ (fun j => if j = 2 then true else ℓ j) ⟨x10, (.int .i64 a), (.string d1), x13, x14, x15, x16, x17, x18, x19, x20, x21, x22, x23, x24, x25, x26, x27, x28, x29, x30, x2, (by simp only [Act.put, List.setIfInBounds_toArray, List.set_cons_zero, List.set_cons_succ]), ⟨hr9.gb, hr9.f0, hr9.f1, (fun _ => rfl), hr9.f3, hr9.f4, hr9.f5, hr9.f6, hr9.f7, hr9.f8, hr9.f9, hr9.f10, hr9.f11, hr9.f12, hr9.f13, hr9.f14, hr9.f15, hr9.f16, hr9.f17, hr9.f18, hr9.f19, hr9.f20, hr9.f21⟩⟩ (if_pos rfl) (fun j hj => if_neg hj)
    · revert hK
      obtain rfl := Option.some.inj ho
      clear hdep ho
      have hgb := hr.gb
      intro hK
      rw [if_pos (by rfl)]
      try simp only [Act.put, List.setIfInBounds_toArray, List.set_cons_zero, List.set_cons_succ]
      go_simp
      exact hK.out _ _ (fun j => if j = 3 then true else ℓ j) ⟨x10, x11, x12, (.pointer (some ⟨w.heap.size, 1, none⟩)), x14, x15, x16, x17, x18, x19, x20, x21, x22, x23, x24, x25, x26, x27, x28, x29, x30, x2, (by simp only [Act.put, List.setIfInBounds_toArray, List.set_cons_zero, List.set_cons_succ]), ⟨hr.gb, hr.f0, hr.f1, hr.f2, (fun _ => rfl), hr.f4, hr.f5, hr.f6, hr.f7, hr.f8, hr.f9, hr.f10, hr.f11, hr.f12, hr.f13, hr.f14, hr.f15, hr.f16, hr.f17, hr.f18, hr.f19, hr.f20, hr.f21⟩⟩ (if_pos rfl) (fun j hj => if_neg hj)
    · revert hK
      obtain rfl := Option.some.inj ho
      have g3 : ℓ 3 = true := hdep { on := 3, ground := Ground.data } (by simp) rfl
      clear hdep ho
      have hgb := hr.gb
      obtain rfl := hr.f3 g3
      intro hK
      rw [if_pos (by rfl)]
      try simp only [Act.put, List.setIfInBounds_toArray, List.set_cons_zero, List.set_cons_succ]
      have cc := (hgb.cell (World.block_lt_of_cell? _ _ e1)).trans e1
      go_simp
      exact hK.out _ _ (fun j => if j = 4 then true else ℓ j) ⟨x10, x11, x12, (.pointer (some ⟨w.heap.size, 1, none⟩)), (.int .i64 c), x15, x16, x17, x18, x19, x20, x21, x22, x23, x24, x25, x26, x27, x28, x29, x30, x2, (by simp only [Act.put, List.setIfInBounds_toArray, List.set_cons_zero, List.set_cons_succ]), ⟨hr.gb, hr.f0, hr.f1, hr.f2, hr.f3, (fun _ => rfl), hr.f5, hr.f6, hr.f7, hr.f8, hr.f9, hr.f10, hr.f11, hr.f12, hr.f13, hr.f14, hr.f15, hr.f16, hr.f17, hr.f18, hr.f19, hr.f20, hr.f21⟩⟩ (if_pos rfl) (fun j hj => if_neg hj)
    · revert hK
      obtain rfl := Option.some.inj ho
      have g4 : ℓ 4 = true := hdep { on := 4, ground := Ground.data } (by simp) rfl
      clear hdep ho
      have hgb := hr.gb
      obtain rfl := hr.f4 g4
      intro hK
      rw [if_pos (by rfl)]
      try simp only [Act.put, List.setIfInBounds_toArray, List.set_cons_zero, List.set_cons_succ]
      go_simp
      go_at_call 20
      refine Calls.mono (K2.out _ (HB1.out.trans (hgb.mono HB1.out.size))) ?_
      rintro e w9 ⟨rfl, hb9⟩
      have hr9 := hr.below hb9
      exact hK.out _ _ (fun j => if j = 5 then true else ℓ j) ⟨x10, x11, x12, x13, (.int .i64 c), (.string d2), x16, x17, x18, x19, x20, x21, x22, x23, x24, x25, x26, x27, x28, x29, x30, x2, (by simp only [Act.put, List.setIfInBounds_toArray, List.set_cons_zero, List.set_cons_succ]), ⟨hr9.gb, hr9.f0, hr9.f1, hr9.f2, hr9.f3, hr9.f4, (fun _ => rfl), hr9.f6, hr9.f7, hr9.f8, hr9.f9, hr9.f10, hr9.f11, hr9.f12, hr9.f13, hr9.f14, hr9.f15, hr9.f16, hr9.f17, hr9.f18, hr9.f19, hr9.f20, hr9.f21⟩⟩ (if_pos rfl) (fun j hj => if_neg hj)
    · revert hK
      obtain rfl := Option.some.inj ho
      clear hdep ho
      have hgb := hr.gb
      intro hK
      rw [if_pos (by rfl)]
      try simp only [Act.put, List.setIfInBounds_toArray, List.set_cons_zero, List.set_cons_succ]
      go_simp
      exact hK.out _ _ (fun j => if j = 6 then true else ℓ j) ⟨x10, x11, x12, x13, x14, x15, (.pointer (some ⟨w.heap.size, 2, none⟩)), x17, x18, x19, x20, x21, x22, x23, x24, x25, x26, x27, x28, x29, x30, x2, (by simp only [Act.put, List.setIfInBounds_toArray, List.set_cons_zero, List.set_cons_succ]), ⟨hr.gb, hr.f0, hr.f1, hr.f2, hr.f3, hr.f4, hr.f5, (fun _ => rfl), hr.f7, hr.f8, hr.f9, hr.f10, hr.f11, hr.f12, hr.f13, hr.f14, hr.f15, hr.f16, hr.f17, hr.f18, hr.f19, hr.f20, hr.f21⟩⟩ (if_pos rfl) (fun j hj => if_neg hj)
    · revert hK
      obtain rfl := Option.some.inj ho
      have g6 : ℓ 6 = true := hdep { on := 6, ground := Ground.data } (by simp) rfl
      clear hdep ho
      have hgb := hr.gb
      obtain rfl := hr.f6 g6
      intro hK
      rw [if_pos (by rfl)]
      try simp only [Act.put, List.setIfInBounds_toArray, List.set_cons_zero, List.set_cons_succ]
      have cc := (hgb.cell (World.block_lt_of_cell? _ _ e2)).trans e2
      go_simp
      exact hK.out _ _ (fun j => if j = 7 then true else ℓ j) ⟨x10, x11, x12, x13, x14, x15, (.pointer (some ⟨w.heap.size, 2, none⟩)), (.int .u32 p), x18, x19, x20, x21, x22, x23, x24, x25, x26, x27, x28, x29, x30, x2, (by simp only [Act.put, List.setIfInBounds_toArray, List.set_cons_zero, List.set_cons_succ]), ⟨hr.gb, hr.f0, hr.f1, hr.f2, hr.f3, hr.f4, hr.f5, hr.f6, (fun _ => rfl), hr.f8, hr.f9, hr.f10, hr.f11, hr.f12, hr.f13, hr.f14, hr.f15, hr.f16, hr.f17, hr.f18, hr.f19, hr.f20, hr.f21⟩⟩ (if_pos rfl) (fun j hj => if_neg hj)
    · revert hK
      obtain rfl := Option.some.inj ho
      have g7 : ℓ 7 = true := hdep { on := 7, ground := Ground.data } (by simp) rfl
      clear hdep ho
      have hgb := hr.gb
      obtain rfl := hr.f7 g7
      intro hK
      rw [if_pos (by rfl)]
      try simp only [Act.put, List.setIfInBounds_toArray, List.set_cons_zero, List.set_cons_succ]
      go_simp
      go_at_call 21
      refine Calls.mono (K3.out _ (HB1.out.trans (hgb.mono HB1.out.size))) ?_
      rintro e w9 ⟨rfl, hb9⟩
      have hr9 := hr.below hb9
      exact hK.out _ _ (fun j => if j = 8 then true else ℓ j) ⟨x10, x11, x12, x13, x14, x15, x16, (.int .u32 p), (.string h3), x19, x20, x21, x22, x23, x24, x25, x26, x27, x28, x29, x30, x2, (by simp only [Act.put, List.setIfInBounds_toArray, List.set_cons_zero, List.set_cons_succ]), ⟨hr9.gb, hr9.f0, hr9.f1, hr9.f2, hr9.f3, hr9.f4, hr9.f5, hr9.f6, hr9.f7, (fun _ => rfl), hr9.f9, hr9.f10, hr9.f11, hr9.f12, hr9.f13, hr9.f14, hr9.f15, hr9.f16, hr9.f17, hr9.f18, hr9.f19, hr9.f20, hr9.f21⟩⟩ (if_pos rfl) (fun j hj => if_neg hj)
    · revert hK
      obtain rfl := Option.some.inj ho
      clear hdep ho
      have hgb := hr.gb
      intro hK
      rw [if_pos (by rfl)]
      try simp only [Act.put, List.setIfInBounds_toArray, List.set_cons_zero, List.set_cons_succ]
      go_simp
      exact hK.out _ _ (fun j => if j = 9 then true else ℓ j) ⟨x10, x11, x12, x13, x14, x15, x16, x17, x18, (.string q), x20, x21, x22, x23, x24, x25, x26, x27, x28, x29, x30, x2, (by simp only [Act.put, List.setIfInBounds_toArray, List.set_cons_zero, List.set_cons_succ]), ⟨hr.gb, hr.f0, hr.f1, hr.f2, hr.f3, hr.f4, hr.f5, hr.f6, hr.f7, hr.f8, (fun _ => rfl), hr.f10, hr.f11, hr.f12, hr.f13, hr.f14, hr.f15, hr.f16, hr.f17, hr.f18, hr.f19, hr.f20, hr.f21⟩⟩ (if_pos rfl) (fun j hj => if_neg hj)
    · revert hK
      obtain rfl := Option.some.inj ho
      clear hdep ho
      have hgb := hr.gb
      intro hK
      rw [if_pos (by rfl)]
      try simp only [Act.put, List.setIfInBounds_toArray, List.set_cons_zero, List.set_cons_succ]
      go_simp
      exact hK.out _ _ (fun j => if j = 10 then true else ℓ j) ⟨x10, x11, x12, x13, x14, x15, x16, x17, x18, x19, (.pointer (some ⟨w.heap.size, 4, none⟩)), x21, x22, x23, x24, x25, x26, x27, x28, x29, x30, x2, (by simp only [Act.put, List.setIfInBounds_toArray, List.set_cons_zero, List.set_cons_succ]), ⟨hr.gb, hr.f0, hr.f1, hr.f2, hr.f3, hr.f4, hr.f5, hr.f6, hr.f7, hr.f8, hr.f9, (fun _ => rfl), hr.f11, hr.f12, hr.f13, hr.f14, hr.f15, hr.f16, hr.f17, hr.f18, hr.f19, hr.f20, hr.f21⟩⟩ (if_pos rfl) (fun j hj => if_neg hj)
    · revert hK
      obtain rfl := Option.some.inj ho
      have g10 : ℓ 10 = true := hdep { on := 10, ground := Ground.data } (by simp) rfl
      clear hdep ho
      have hgb := hr.gb
      obtain rfl := hr.f10 g10
      intro hK
      rw [if_pos (by rfl)]
      try simp only [Act.put, List.setIfInBounds_toArray, List.set_cons_zero, List.set_cons_succ]
      have cc := (hgb.cell (World.block_lt_of_cell? _ _ e4)).trans e4
      go_simp
      exact hK.out _ _ (fun j => if j = 11 then true else ℓ j) ⟨x10, x11, x12, x13, x14, x15, x16, x17, x18, x19, (.pointer (some ⟨w.heap.size, 4, none⟩)), (.int .i64 f), x22, x23, x24, x25, x26, x27, x28, x29, x30, x2, (by simp only [Act.put, List.setIfInBounds_toArray, List.set_cons_zero, List.set_cons_succ]), ⟨hr.gb, hr.f0, hr.f1, hr.f2, hr.f3, hr.f4, hr.f5, hr.f6, hr.f7, hr.f8, hr.f9, hr.f10, (fun _ => rfl), hr.f12, hr.f13, hr.f14, hr.f15, hr.f16, hr.f17, hr.f18, hr.f19, hr.f20, hr.f21⟩⟩ (if_pos rfl) (fun j hj => if_neg hj)
    · revert hK
      obtain rfl := Option.some.inj ho
      have g11 : ℓ 11 = true := hdep { on := 11, ground := Ground.data } (by simp) rfl
      clear hdep ho
      have hgb := hr.gb
      obtain rfl := hr.f11 g11
      intro hK
      rw [if_pos (by rfl)]
      try simp only [Act.put, List.setIfInBounds_toArray, List.set_cons_zero, List.set_cons_succ]
      go_simp
      go_at_call 20
      refine Calls.mono (K4.out _ (HB1.out.trans (hgb.mono HB1.out.size))) ?_
      rintro e w9 ⟨rfl, hb9⟩
      have hr9 := hr.below hb9
      exact hK.out _ _ (fun j => if j = 12 then true else ℓ j) ⟨x10, x11, x12, x13, x14, x15, x16, x17, x18, x19, x20, (.int .i64 f), (.string d4), x23, x24, x25, x26, x27, x28, x29, x30, x2, (by simp only [Act.put, List.setIfInBounds_toArray, List.set_cons_zero, List.set_cons_succ]), ⟨hr9.gb, hr9.f0, hr9.f1, hr9.f2, hr9.f3, hr9.f4, hr9.f5, hr9.f6, hr9.f7, hr9.f8, hr9.f9, hr9.f10, hr9.f11, (fun _ => rfl), hr9.f13, hr9.f14, hr9.f15, hr9.f16, hr9.f17, hr9.f18, hr9.f19, hr9.f20, hr9.f21⟩⟩ (if_pos rfl) (fun j hj => if_neg hj)
    · revert hK
      obtain rfl := Option.some.inj ho
      clear hdep ho
      have hgb := hr.gb
      intro hK
      rw [if_pos (by rfl)]
      try simp only [Act.put, List.setIfInBounds_toArray, List.set_cons_zero, List.set_cons_succ]
      go_simp
      exact hK.out _ _ (fun j => if j = 13 then true else ℓ j) ⟨x10, x11, x12, x13, x14, x15, x16, x17, x18, x19, x20, x21, x22, (.pointer (some ⟨w.heap.size, 5, none⟩)), x24, x25, x26, x27, x28, x29, x30, x2, (by simp only [Act.put, List.setIfInBounds_toArray, List.set_cons_zero, List.set_cons_succ]), ⟨hr.gb, hr.f0, hr.f1, hr.f2, hr.f3, hr.f4, hr.f5, hr.f6, hr.f7, hr.f8, hr.f9, hr.f10, hr.f11, hr.f12, (fun _ => rfl), hr.f14, hr.f15, hr.f16, hr.f17, hr.f18, hr.f19, hr.f20, hr.f21⟩⟩ (if_pos rfl) (fun j hj => if_neg hj)
    · revert hK
      obtain rfl := Option.some.inj ho
      have g13 : ℓ 13 = true := hdep { on := 13, ground := Ground.data } (by simp) rfl
      clear hdep ho
      have hgb := hr.gb
      obtain rfl := hr.f13 g13
      intro hK
      rw [if_pos (by rfl)]
      try simp only [Act.put, List.setIfInBounds_toArray, List.set_cons_zero, List.set_cons_succ]
      have cc := (hgb.cell (World.block_lt_of_cell? _ _ e5)).trans e5
      go_simp
      exact hK.out _ _ (fun j => if j = 14 then true else ℓ j) ⟨x10, x11, x12, x13, x14, x15, x16, x17, x18, x19, x20, x21, x22, (.pointer (some ⟨w.heap.size, 5, none⟩)), (.int .i64 u), x25, x26, x27, x28, x29, x30, x2, (by simp only [Act.put, List.setIfInBounds_toArray, List.set_cons_zero, List.set_cons_succ]), ⟨hr.gb, hr.f0, hr.f1, hr.f2, hr.f3, hr.f4, hr.f5, hr.f6, hr.f7, hr.f8, hr.f9, hr.f10, hr.f11, hr.f12, hr.f13, (fun _ => rfl), hr.f15, hr.f16, hr.f17, hr.f18, hr.f19, hr.f20, hr.f21⟩⟩ (if_pos rfl) (fun j hj => if_neg hj)
    · revert hK
      obtain rfl := Option.some.inj ho
      have g14 : ℓ 14 = true := hdep { on := 14, ground := Ground.data } (by simp) rfl
      clear hdep ho
      have hgb := hr.gb
      obtain rfl := hr.f14 g14
      intro hK
      rw [if_pos (by rfl)]
      try simp only [Act.put, List.setIfInBounds_toArray, List.set_cons_zero, List.set_cons_succ]
      go_simp
      go_at_call 20
      refine Calls.mono (K5.out _ (HB1.out.trans (hgb.mono HB1.out.size))) ?_
      rintro e w9 ⟨rfl, hb9⟩
      have hr9 := hr.below hb9
      exact hK.out _ _ (fun j => if j = 15 then true else ℓ j) ⟨x10, x11, x12, x13, x14, x15, x16, x17, x18, x19, x20, x21, x22, x23, (.int .i64 u), (.string d5), x26, x27, x28, x29, x30, x2, (by simp only [Act.put, List.setIfInBounds_toArray, List.set_cons_zero, List.set_cons_succ]), ⟨hr9.gb, hr9.f0, hr9.f1, hr9.f2, hr9.f3, hr9.f4, hr9.f5, hr9.f6, hr9.f7, hr9.f8, hr9.f9, hr9.f10, hr9.f11, hr9.f12, hr9.f13, hr9.f14, (fun _ => rfl), hr9.f16, hr9.f17, hr9.f18, hr9.f19, hr9.f20, hr9.f21⟩⟩ (if_pos rfl) (fun j hj => if_neg hj)
    · revert hK
      obtain rfl := Option.some.inj ho
      clear hdep ho
      have hgb := hr.gb
      intro hK
      rw [if_pos (by rfl)]
      try simp only [Act.put, List.setIfInBounds_toArray, List.set_cons_zero, List.set_cons_succ]
      go_simp
      exact hK.out _ _ (fun j => if j = 16 then true else ℓ j) ⟨x10, x11, x12, x13, x14, x15, x16, x17, x18, x19, x20, x21, x22, x23, x24, x25, (.pointer (some ⟨w.heap.size, 6, none⟩)), x27, x28, x29, x30, x2, (by simp only [Act.put, List.setIfInBounds_toArray, List.set_cons_zero, List.set_cons_succ]), ⟨hr.gb, hr.f0, hr.f1, hr.f2, hr.f3, hr.f4, hr.f5, hr.f6, hr.f7, hr.f8, hr.f9, hr.f10, hr.f11, hr.f12, hr.f13, hr.f14, hr.f15, (fun _ => rfl), hr.f17, hr.f18, hr.f19, hr.f20, hr.f21⟩⟩ (if_pos rfl) (fun j hj => if_neg hj)
    · revert hK
      obtain rfl := Option.some.inj ho
      have g16 : ℓ 16 = true := hdep { on := 16, ground := Ground.data } (by simp) rfl
      clear hdep ho
      have hgb := hr.gb
      obtain rfl := hr.f16 g16
      intro hK
      rw [if_pos (by rfl)]
      try simp only [Act.put, List.setIfInBounds_toArray, List.set_cons_zero, List.set_cons_succ]
      have cc := (hgb.cell (World.block_lt_of_cell? _ _ e6)).trans e6
      go_simp
      exact hK.out _ _ (fun j => if j = 17 then true else ℓ j) ⟨x10, x11, x12, x13, x14, x15, x16, x17, x18, x19, x20, x21, x22, x23, x24, x25, (.pointer (some ⟨w.heap.size, 6, none⟩)), (.int .u32 s), x28, x29, x30, x2, (by simp only [Act.put, List.setIfInBounds_toArray, List.set_cons_zero, List.set_cons_succ]), ⟨hr.gb, hr.f0, hr.f1, hr.f2, hr.f3, hr.f4, hr.f5, hr.f6, hr.f7, hr.f8, hr.f9, hr.f10, hr.f11, hr.f12, hr.f13, hr.f14, hr.f15, hr.f16, (fun _ => rfl), hr.f18, hr.f19, hr.f20, hr.f21⟩⟩ (if_pos rfl) (fun j hj => if_neg hj)
    · revert hK
      obtain rfl := Option.some.inj ho
      have g17 : ℓ 17 = true := hdep { on := 17, ground := Ground.data } (by simp) rfl
      clear hdep ho
      have hgb := hr.gb
      obtain rfl := hr.f17 g17
      intro hK
      rw [if_pos (by rfl)]
      try simp only [Act.put, List.setIfInBounds_toArray, List.set_cons_zero, List.set_cons_succ]
      go_simp
      go_at_call 21
      refine Calls.mono (K6.out _ (HB1.out.trans (hgb.mono HB1.out.size))) ?_
      rintro e w9 ⟨rfl, hb9⟩
      have hr9 := hr.below hb9
      exact hK.out _ _ (fun j => if j = 18 then true else ℓ j) ⟨x10, x11, x12, x13, x14, x15, x16, x17, x18, x19, x20, x21, x22, x23, x24, x25, x26, (.int .u32 s), (.string h6), x29, x30, x2, (by simp only [Act.put, List.setIfInBounds_toArray, List.set_cons_zero, List.set_cons_succ]), ⟨hr9.gb, hr9.f0, hr9.f1, hr9.f2, hr9.f3, hr9.f4, hr9.f5, hr9.f6, hr9.f7, hr9.f8, hr9.f9, hr9.f10, hr9.f11, hr9.f12, hr9.f13, hr9.f14, hr9.f15, hr9.f16, hr9.f17, (fun _ => rfl), hr9.f19, hr9.f20, hr9.f21⟩⟩ (if_pos rfl) (fun j hj => if_neg hj)
    · revert hK
      obtain rfl := Option.some.inj ho
      have g2 : ℓ 2 = true := hdep { on := 2, ground := Ground.data } (by simp) rfl
      have g5 : ℓ 5 = true := hdep { on := 5, ground := Ground.data } (by simp) rfl
      have g8 : ℓ 8 = true := hdep { on := 8, ground := Ground.data } (by simp) rfl
      have g9 : ℓ 9 = true := hdep { on := 9, ground := Ground.data } (by simp) rfl
      have g12 : ℓ 12 = true := hdep { on := 12, ground := Ground.data } (by simp) rfl
      have g15 : ℓ 15 = true := hdep { on := 15, ground := Ground.data } (by simp) rfl
      have g18 : ℓ 18 = true := hdep { on := 18, ground := Ground.data } (by simp) rfl
      clear hdep ho
      have hgb := hr.gb
      obtain rfl := hr.f2 g2
      obtain rfl := hr.f5 g5
      obtain rfl := hr.f8 g8
      obtain rfl := hr.f9 g9
      obtain rfl := hr.f12 g12
      obtain rfl := hr.f15 g15
      obtain rfl := hr.f18 g18
      intro hK
      rw [if_pos (by rfl)]
      try simp only [Act.put, List.setIfInBounds_toArray, List.set_cons_zero, List.set_cons_succ]
      have hr9 := hr.below (w9 := w'.alloc (.cells (#[.string d1, .string d2, .string h3, .string q, .string d4, .string d5, .string h6]) 9)) ((Below.refl _ _).alloc (Nat.le_refl _) _)
      go_simp
      exact hK.out _ _ (fun j => if j = 19 then true else ℓ j) ⟨x10, x11, (.string d1), x13, x14, (.string d2), x16, x17, (.string h3), (.string q), x20, x21, (.string d4), x23, x24, (.string d5), x26, x27, (.string h6), (.slice (some ⟨w'.heap.size, 0, none⟩) 7 7), x30, x2, (by simp only [Act.put, List.setIfInBounds_toArray, List.set_cons_zero, List.set_cons_succ]), ⟨hr9.gb, hr9.f0, hr9.f1, hr9.f2, hr9.f3, hr9.f4, hr9.f5, hr9.f6, hr9.f7, hr9.f8, hr9.f9, hr9.f10, hr9.f11, hr9.f12, hr9.f13, hr9.f14, hr9.f15, hr9.f16, hr9.f17, hr9.f18, (fun _ => ⟨w'.heap.size, rfl, hgb.size, new_row w' _ _ _ rfl⟩), hr9.f20, hr9.f21⟩⟩ (if_pos rfl) (fun j hj => if_neg hj)
    · revert hK
      obtain rfl := Option.some.inj ho
      have g19 : ℓ 19 = true := hdep { on := 19, ground := Ground.data } (by simp) rfl
      clear hdep ho
      have hgb := hr.gb
      obtain ⟨N, rfl, hN, hrow⟩ := hr.f19 g19
      intro hK
      rw [if_pos (by rfl)]
      try simp only [Act.put, List.setIfInBounds_toArray, List.set_cons_zero, List.set_cons_succ]
      go_simp
      go_at_call 19
      refine Calls.mono (KJ.out _ _ hrow) ?_
      rintro e w9 ⟨rfl, hb9⟩
      have hr9 := hr.below hb9
      exact hK.out _ _ (fun j => if j = 20 then true else ℓ j) ⟨x10, x11, x12, x13, x14, x15, x16, x17, x18, x19, x20, x21, x22, x23, x24, x25, x26, x27, x28, (.slice (some ⟨N, 0, none⟩) 7 7), (.string r), x2, (by simp only [Act.put, List.setIfInBounds_toArray, List.set_cons_zero, List.set_cons_succ]), ⟨hr9.gb, hr9.f0, hr9.f1, hr9.f2, hr9.f3, hr9.f4, hr9.f5, hr9.f6, hr9.f7, hr9.f8, hr9.f9, hr9.f10, hr9.f11, hr9.f12, hr9.f13, hr9.f14, hr9.f15, hr9.f16, hr9.f17, hr9.f18, hr9.f19, (fun _ => rfl), hr9.f21⟩⟩ (if_pos rfl) (fun j hj => if_neg hj)
    · revert hK
      obtain rfl := Option.some.inj ho
      have g20 : ℓ 20 = true := hdep { on := 20, ground := Ground.data } (by simp) rfl
      clear hdep ho
      have hgb := hr.gb
      obtain rfl := hr.f20 g20
      intro hK
      rw [if_pos (by rfl)]
      try simp only [Act.put, List.setIfInBounds_toArray, List.set_cons_zero, List.set_cons_succ]
      go_simp
      exact hK.out _ _ (fun j => if j = 21 then true else ℓ j) ⟨x10, x11, x12, x13, x14, x15, x16, x17, x18, x19, x20, x21, x22, x23, x24, x25, x26, x27, x28, x29, (.string r), (.string r), (by simp only [Act.put, List.setIfInBounds_toArray, List.set_cons_zero, List.set_cons_succ]), ⟨hr.gb, hr.f0, hr.f1, hr.f2, hr.f3, hr.f4, hr.f5, hr.f6, hr.f7, hr.f8, hr.f9, hr.f10, hr.f11, hr.f12, hr.f13, hr.f14, hr.f15, hr.f16, hr.f17, hr.f18, hr.f19, hr.f20, (fun _ => rfl)⟩⟩ (if_pos rfl) (fun j hj => if_neg hj)
  · rintro a' w' ℓ ℓ' hℓ hI
    rw [← show ℓ = ℓ' from funext hℓ]
    exact hI
theorem impl_evt (a c p o f u s : Int) (w : World) (ha : -9223372036854775808 ≤ a ∧ a ≤ 9223372036854775807) (hc : -9223372036854775808 ≤ c ∧ c ≤ 9223372036854775807) (hp : 0 ≤ p ∧ p ≤ 4294967295)
    (hf : -9223372036854775808 ≤ f ∧ f ≤ 9223372036854775807) (hu : -9223372036854775808 ≤ u ∧ u ≤ 9223372036854775807) (hs : 0 ≤ s ∧ s ≤ 4294967295) (hN : TabN w) (hP : Lib.TabIs Tryd.prog w "internal/strconv.uint64pow10" .u64 Lib.pow10Tab)
    (hPB : ∀ X, Below w.heap.size w X → Lib.TabIs Tryd.prog X "internal/strconv.uint64pow10" .u64 Lib.pow10Tab) :
    Calls Tryd.prog 8 #[.agg #[.int .i64 a, .int .i64 c, .int .u32 p, .int .i64 o, .int .i64 f, .int .i64 u, .int .u32 s]] w fun e w' => e = .returned (.string (Ex.evt a c p o f u s)) ∧ Below w.heap.size w w' := by
  unfold Ex.evt
  have zz : ∀ n, (Ex.dt n).size ≤ 30 := fun n => Nat.le_trans (Ex.dt_size n) (by omega)
  have zh : ∀ n, (Ex.hx n).size ≤ 30 := fun n => by rw [Ex.hx_size]; omega
  have D : ∀ n : Int, -9223372036854775808 ≤ n ∧ n ≤ 9223372036854775807 → Hid (∀ X, Below w.heap.size w X → Calls Tryd.prog 20 #[.int .i64 n] X fun e w' => e = .returned (.string (Ex.dt n)) ∧ Below X.heap.size X w') := fun n hn X hX => impl_text n X hn.1 hn.2 (hPB X hX)
  have X6 : ∀ n : Int, 0 ≤ n ∧ n ≤ 4294967295 → Hid (∀ X, Below w.heap.size w X → Calls Tryd.prog 21 #[.int .u32 n] X fun e w' => e = .returned (.string (Ex.hx n)) ∧ Below X.heap.size X w') := fun n hn X _ => impl_hexword n X hn.1 hn.2
  have ow := Ex.opw_size o
  have J : Hid (∀ (N : Nat) (X : World), X.heap[N]? = some (.cells #[.string (Ex.dt a), .string (Ex.dt c), .string (Ex.hx p), .string (Ex.opw o), .string (Ex.dt f), .string (Ex.dt u), .string (Ex.hx s)] 9 (0, 0)) → Calls Tryd.prog 19 #[.slice (some ⟨N, 0, none⟩) 7 7, .string ⟨#[32]⟩] X fun e w' => e = .returned (.string (Ex.line (Ex.dt a) (Ex.dt c) (Ex.hx p) (Ex.opw o) (Ex.dt f) (Ex.dt u) (Ex.hx s))) ∧ Below X.heap.size X w') := fun N X h => join_row _ _ _ _ _ _ _ (zz a) (zz c) (zh p) (zz f) (zz u) (zh s) (Nat.le_trans ow.2 (by omega)) N X h
  by_cases ho : 0 ≤ o ∧ o < 33
  · have e : Ex.opw o = nm o.toNat := by unfold Ex.opw; rw [if_pos ho]
    have eo : (o.toNat : Int) = o := by omega
    have := impl_evt_op a c p f u s o.toNat _ _ _ (Ex.opw o) _ _ _ _ w (by omega) (by rw [e]; exact hN _ (by omega)) (D a ha) (D c hc) (X6 p hp) (D f hf) (D u hu) (X6 s hs) J
    rw [eo] at this
    exact this
  · have e : Ex.dash = Ex.opw o := by unfold Ex.opw; rw [if_neg ho]
    exact impl_evt_no a c p f u s o _ _ _ (Ex.opw o) _ _ _ _ w ho e (D a ha) (D c hc) (X6 p hp) (D f hf) (D u hu) (X6 s hs) J
end Go.Proofs.YthlapikcjiajgaaDoor
