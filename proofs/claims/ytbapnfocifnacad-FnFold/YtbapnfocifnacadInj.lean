/-
  That a fold tells one turned word (plain facts), what the drawn list of a fold is, and what the laws' byte at a place is. Conditions: the bytes drawn from are at most 1048576.
-/
import Derived.Test.YtbapnfocifnacadList
namespace Go.Proofs.Ytbapnfocifnacad
open Go.ChangeShapes Go.WideShapes Go.ChangeAt Go.RowKit Go.Deep
set_option linter.unusedVariables false

namespace Wd
theorem rot5_inj (x y : Nat) (hx : x < 4294967296) (hy : y < 4294967296) (h : rot x 5 = rot y 5) : x = y := by
  apply Nat.eq_of_testBit_eq
  intro j
  by_cases hj : j < 32
  · have hb : ∀ z, (rot z 5).testBit ((j + 5) % 32) = z.testBit j := by
      intro z
      rw [rot, hor_bit, decide_eq_true (by omega), Bool.true_and, Nat.zero_add]
      congr 1
      split <;> omega
    rw [← hb x, ← hb y, h]
  · rw [far x j hx (by omega), far y j hy (by omega)]
theorem xor_left (a b c : Nat) (h : a ^^^ b = a ^^^ c) : b = c := by
  have : a ^^^ (a ^^^ b) = a ^^^ (a ^^^ c) := by rw [h]
  rwa [← Nat.xor_assoc, ← Nat.xor_assoc, Nat.xor_self, Nat.zero_xor, Nat.zero_xor] at this
theorem fold1_nat (c z : Nat) (hc : c < 4294967296) (hz : z < 4294967296) : fold1 (c : Int) (z : Int) = (((rot c 5 ^^^ z : Nat) : Int) + 2654435769) % 4294967296 := by
  have h5 := rot5 (c : Int) (by omega) (by omega)
  have hl := hor_lt (fun i => c.testBit (if i < 5 then i + 32 - 5 else i - 5)) 32 0
  unfold fold1
  rw [← h5, Int.toNat_natCast]
  show (bits .xor .u32 ((rot c 5 : Nat) : Int) z + 2654435769) % 4294967296 = _
  have hr : rot c 5 < 4294967296 := hl
  rw [u32_xor _ _ (by omega) (by omega) (by omega) (by omega), Int.toNat_natCast, Int.toNat_natCast]
theorem xor_lt32 (a b : Nat) (ha : a < 4294967296) (hb : b < 4294967296) : a ^^^ b < 4294967296 := Nat.xor_lt_two_pow (n := 32) ha hb
theorem rot_lt (c : Nat) (k : Nat) : rot c k < 4294967296 := hor_lt _ 32 0
theorem fold1_inj_z (c z z' : Int) (hc : 0 ≤ c ∧ c ≤ 4294967295) (hz : 0 ≤ z ∧ z ≤ 4294967295) (hz' : 0 ≤ z' ∧ z' ≤ 4294967295) (h : fold1 c z = fold1 c z') : z = z' := by
  obtain ⟨C, rfl⟩ := Int.eq_ofNat_of_zero_le hc.1
  obtain ⟨Z, rfl⟩ := Int.eq_ofNat_of_zero_le hz.1
  obtain ⟨Z', rfl⟩ := Int.eq_ofNat_of_zero_le hz'.1
  rw [fold1_nat C Z (by omega) (by omega), fold1_nat C Z' (by omega) (by omega)] at h
  have l1 := xor_lt32 (rot C 5) Z (rot_lt C 5) (by omega)
  have l2 := xor_lt32 (rot C 5) Z' (rot_lt C 5) (by omega)
  have e : rot C 5 ^^^ Z = rot C 5 ^^^ Z' := by omega
  rw [xor_left _ _ _ e]
theorem fold1_inj_c (c c' z : Int) (hc : 0 ≤ c ∧ c ≤ 4294967295) (hc' : 0 ≤ c' ∧ c' ≤ 4294967295) (hz : 0 ≤ z ∧ z ≤ 4294967295) (h : fold1 c z = fold1 c' z) : c = c' := by
  obtain ⟨C, rfl⟩ := Int.eq_ofNat_of_zero_le hc.1
  obtain ⟨C', rfl⟩ := Int.eq_ofNat_of_zero_le hc'.1
  obtain ⟨Z, rfl⟩ := Int.eq_ofNat_of_zero_le hz.1
  rw [fold1_nat C Z (by omega) (by omega), fold1_nat C' Z (by omega) (by omega)] at h
  have l1 := xor_lt32 (rot C 5) Z (rot_lt C 5) (by omega)
  have l2 := xor_lt32 (rot C' 5) Z (rot_lt C' 5) (by omega)
  have e : rot C 5 ^^^ Z = rot C' 5 ^^^ Z := by omega
  rw [Nat.xor_comm _ Z, Nat.xor_comm _ Z] at e
  rw [rot5_inj C C' (by omega) (by omega) (xor_left _ _ _ e)]
theorem foldl_inj : ∀ (l : List Int) (c c' : Int), (∀ y ∈ l, 0 ≤ y ∧ y ≤ 4294967295) → (0 ≤ c ∧ c ≤ 4294967295) → (0 ≤ c' ∧ c' ≤ 4294967295) → l.foldl fold1 c = l.foldl fold1 c' → c = c'
  | [], c, c', _, _, _, h => h
  | a :: l, c, c', hl, hc, hc', h => by
    have := foldl_inj l (fold1 c a) (fold1 c' a) (fun y hy => hl y (List.mem_cons_of_mem _ hy)) (fold1_bd c a) (fold1_bd c' a) h
    exact fold1_inj_c c c' a hc hc' (hl a List.mem_cons_self) this
theorem foldl_bd : ∀ (l : List Int) (c : Int), 0 ≤ c ∧ c ≤ 4294967295 → 0 ≤ l.foldl fold1 c ∧ l.foldl fold1 c ≤ 4294967295
  | [], c, h => h
  | a :: l, c, h => foldl_bd l _ (fold1_bd c a)
/-- One word another, another fold. -/
theorem folds_set (ys : List Int) (j : Nat) (v : Int) (hj : j < ys.length) (hy : ∀ y ∈ ys, 0 ≤ y ∧ y ≤ 4294967295) (hv : 0 ≤ v ∧ v ≤ 4294967295) (hne : v ≠ ys.getD j 0) : folds (ys.set j v) ≠ folds ys := by
  intro h
  have e1 : ys.set j v = ys.take j ++ v :: ys.drop (j + 1) := List.set_eq_take_append_cons_drop.trans (if_pos hj)
  have e2 : ys = ys.take j ++ ys.getD j 0 :: ys.drop (j + 1) := by
    conv => lhs; rw [← List.take_append_drop j ys, List.drop_eq_getElem_cons hj]
    simp [List.getD, hj]
  have hd : ∀ y ∈ ys.drop (j + 1), 0 ≤ y ∧ y ≤ 4294967295 := fun y hm => hy y (List.mem_of_mem_drop hm)
  have hg := hy _ (getD_mem ys j hj)
  have hp := foldl_bd (ys.take j) 1 (by omega)
  generalize hz : ys.getD j 0 = z at *
  rw [e1] at h
  unfold folds at h
  rw [List.foldl_append, List.foldl_cons] at h
  rw [e2, List.foldl_append, List.foldl_cons] at h
  have hlen : (ys.take j).length = j := by simp; omega
  rw [List.take_append_of_le_length (by omega), List.take_take, Nat.min_self] at h
  rw [show (ys.take j ++ z :: ys.drop (j + 1)).drop (j + 1) = ys.drop (j + 1) by rw [← e2]] at h
  have := foldl_inj _ _ _ hd (fold1_bd _ v) (fold1_bd _ z) h
  exact hne (fold1_inj_z _ v z hp hv hg this)
theorem turned (x q : Int) (h0 : 0 ≤ x) (h1 : x ≤ 4294967295) (q0 : 0 ≤ q) (q1 : q ≤ 31) : 0 ≤ bits .xor .u32 x (2 ^ q.toNat) ∧ bits .xor .u32 x (2 ^ q.toNat) ≤ 4294967295 ∧ bits .xor .u32 x (2 ^ q.toNat) ≠ x := by
  obtain ⟨X, rfl⟩ := Int.eq_ofNat_of_zero_le h0
  have hp : (2 : Nat) ^ q.toNat ≤ 2 ^ 31 := Nat.pow_le_pow_right (by omega) (by omega)
  have hp0 : 0 < 2 ^ q.toNat := Nat.two_pow_pos _
  have e : (2 : Int) ^ q.toNat = ((2 ^ q.toNat : Nat) : Int) := by simp
  rw [e]
  generalize (2 : Nat) ^ q.toNat = P at hp hp0
  rw [u32_xor _ _ (by omega) (by omega) (by omega) (by omega), Int.toNat_natCast, Int.toNat_natCast]
  have hl := xor_lt32 X P (by omega) (by omega)
  refine ⟨by omega, by omega, ?_⟩
  intro h
  have h2 : X ^^^ P = X ^^^ 0 := by rw [Nat.xor_zero]; omega
  have := xor_left _ _ _ h2
  omega
end Wd

/-- What a drawn list is. -/
def ListPost (w : World) (e : Ending) (w' : World) : Prop :=
  ∃ (g cp : Nat) (ys : List Int), e = .returned (.slice (some ⟨g, 0, none⟩) ys.length cp) ∧ w.heap.size ≤ g ∧ Own .u32 w' g ys ∧ (∀ y ∈ ys, (Lit.int .u32 y).wf = true) ∧ ys.length ≤ 40 ∧ Below w.heap.size w w'
set_option maxHeartbeats 400000 in
theorem draw_fold (w : World) (a : Option Addr) (zs : List Int) (cap : Nat) (hs : Seg .u8 w a zs) (hb : ∀ z ∈ zs, (Lit.int .u8 z).wf = true) (hn : zs.length ≤ 1048576) :
    Calls Try.prog 5 #[.slice a zs.length cap] w fun e w' => ListPost w e w' := by
  have HB : Hid _ := hb
  clear hb
  go_enter Try.func5, Try.ntmps5
  go_wp2_with fail
  refine (draw_new _ _ _ _ hs HB.out hn).mono ?_
  rintro e w1 ⟨rfl, hc1, hb1⟩
  go_wp2_with fail
  refine (size_any _ _ _ _ hn).mono ?_
  rintro e w1' ⟨x, rfl, hx0, hx1, rfl⟩
  go_wp2_with fail
  refine (draw_below _ _ _ _ _ _ hc1 (by omega) (by omega)).mono ?_
  rintro e w2 ⟨y, rfl, hy0, hy1, hc2, ht2⟩
  go_wp2_with fail
  refine (draw_words _ _ _ _ _ _ hc2 (by omega) (by omega)).mono ?_
  rintro e w3 ⟨v, ys, rfl, hv, hown, hwf, hlen, ht3⟩
  obtain ⟨g, cp, rfl, hg, hoo⟩ := owns_own hown hv
  clear hown
  have hz1 := hc1.lt
  have hz2 := ht2.size
  have hbel : Below w.heap.size w w3 := hb1.trans ((ht2.trans ht3).below (Nat.le_refl _) (Nat.le_of_lt hz1))
  have HW : Hid _ := hwf
  clear hwf
  go_wp2
  go_ret
  exact ⟨g, cp, ys, rfl, by omega, hoo, HW.out, hlen, hbel⟩
/-- The laws' byte at a place: one number, whatever the world. -/
theorem at_det (a : Option Addr) (zs : List Int) (i : Int) (hb : ∀ z ∈ zs, (Lit.int .u8 z).wf = true) (hn : zs.length ≤ 1048576) (hi0 : 0 ≤ i) (hi1 : i ≤ 1000000) :
    ∃ p : Int, 0 ≤ p ∧ p ≤ 255 ∧ ∀ (w : World) (cap : Nat), Seg .u8 w a zs → Calls Try.prog 9 #[.slice a zs.length cap, .int .i64 i] w fun e w' => e = .returned (.int .i64 p) ∧ w' = w := by
  have HB : Hid _ := hb
  clear hb
  by_cases hlt : i < (zs.length : Int)
  · obtain ⟨k, rfl⟩ := Int.eq_ofNat_of_zero_le hi0
    have hl : k < zs.length := by omega
    have hbz := bounds_u8 (HB.out _ (getD_mem zs k hl))
    refine ⟨zs.getD k 0, hbz.1, hbz.2, fun w cap hs => ?_⟩
    obtain ⟨b1, o1, rfl, hbl1, hcl⟩ := hs.at k hl
    generalize zs.getD k 0 = z at hcl hbz
    generalize zs.length = n at hlt hn hl
    obtain ⟨hz0, hz1⟩ := hbz
    go_enter Try.func9, Try.ntmps9
    go_wp2
    go_ret
    exact ⟨rfl, rfl⟩
  · refine ⟨(i * 7 + (zs.length : Int)) % 256, by omega, by omega, fun w cap hs => ?_⟩
    clear hs
    generalize zs.length = n at hlt hn
    go_enter Try.func9, Try.ntmps9
    go_wp2
    go_ret
    exact ⟨rfl, rfl⟩

end Go.Proofs.Ytbapnfocifnacad
