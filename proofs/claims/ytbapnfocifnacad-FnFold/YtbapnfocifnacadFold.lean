/-
  What folding a list of words and turning a word return, and what the laws' own draws from bytes return. Conditions: the bytes drawn from, and the list, are at most 1048576 long.
-/
import Derived.Test.YtbapnfocifnacadDraw
import Derived.Test.YtbapnfocifnacadPlain
namespace Go.Proofs.Ytbapnfocifnacad
open Go.ChangeShapes Go.WideShapes Go.ChangeAt Go.RowKit Go.Deep
set_option linter.unusedVariables false

namespace Wd
/-- One step of a fold. -/
def fold1 (c z : Int) : Int := (bits .xor .u32 (bits .or .u32 (c * 32 % 4294967296) (c / 134217728)) z + 2654435769) % 4294967296
theorem fold1_bd (c z : Int) : 0 ≤ fold1 c z ∧ fold1 c z ≤ 4294967295 := by unfold fold1; omega
theorem rot5 (x : Int) (h1 : 0 ≤ x) (h2 : x ≤ 4294967295) : (rot x.toNat (5 % 32 : Int).toNat : Int) = bits .or .u32 (x * 32 % 4294967296) (x / 134217728) := (rot_int x 5 h1 h2).symm
def folds (zs : List Int) : Int := zs.foldl fold1 1
theorem folds_bd (zs : List Int) : 0 ≤ folds zs ∧ folds zs ≤ 4294967295 := by
  unfold folds
  have : ∀ (l : List Int) (c : Int), 0 ≤ c ∧ c ≤ 4294967295 → 0 ≤ l.foldl fold1 c ∧ l.foldl fold1 c ≤ 4294967295 := by
    intro l
    induction l with
    | nil => intro c h; exact h
    | cons a l ih => intro c _; exact ih _ (fold1_bd c a)
  exact this zs 1 (by omega)
theorem folds_snoc (zs : List Int) (k : Nat) (hk : k < zs.length) : folds (zs.take (k + 1)) = fold1 (folds (zs.take k)) (zs.getD k 0) := by
  rw [take_getD zs k hk, folds, folds, List.foldl_append]
  rfl
theorem join_or (c z : Int) (m : Nat) (h0 : 0 ≤ c) (h1 : c < 2 ^ (8 * m)) (z0 : 0 ≤ z) (z1 : z ≤ 255) (hm : m ≤ 3) : bits .or .u32 c (z * 2 ^ (8 * m) % 4294967296) = c + z * 2 ^ (8 * m) := by
  obtain ⟨C, rfl⟩ := Int.eq_ofNat_of_zero_le h0
  obtain ⟨Z, rfl⟩ := Int.eq_ofNat_of_zero_le z0
  have e : (Z : Int) * 2 ^ (8 * m) = ((2 ^ (8 * m) * Z : Nat) : Int) := by simp [Int.mul_comm]
  have hC : C < 2 ^ (8 * m) := by
    have : (C : Int) < ((2 ^ (8 * m) : Nat) : Int) := by simpa using h1
    omega
  have hp : 2 ^ (8 * m) ≤ 2 ^ 24 := Nat.pow_le_pow_right (by omega) (by omega)
  have hq : 2 ^ (8 * m) * Z ≤ 2 ^ 24 * 255 := Nat.mul_le_mul hp (by omega)
  rw [e, u32_or _ _ (by omega) (by omega) (by omega) (by omega)]
  have hj := Nat.two_pow_add_eq_or_of_lt hC Z
  have em : (((2 ^ (8 * m) * Z : Nat) : Int) % 4294967296).toNat = 2 ^ (8 * m) * Z := by omega
  rw [em, Int.toNat_natCast, Nat.or_comm, ← hj]
  omega
theorem join4 (x y z t : Int) (g1 : 0 ≤ x) (g2 : x ≤ 255) (g3 : 0 ≤ y) (g4 : y ≤ 255) (g5 : 0 ≤ z) (g6 : z ≤ 255) (g7 : 0 ≤ t) (g8 : t ≤ 255) :
    bits .or .u32 (bits .or .u32 (bits .or .u32 (bits .or .u32 0 x) (y * 256)) (z * 65536)) (t * 16777216) = x + 256 * y + 65536 * z + 16777216 * t := by
  have H1 := join_or 0 x 0 (by omega) (by omega) g1 g2 (by omega)
  have H2 := join_or x y 1 (by omega) (by omega) g3 g4 (by omega)
  have H3 := join_or (x + y * 256) z 2 (by omega) (by omega) g5 g6 (by omega)
  have H4 := join_or (x + y * 256 + z * 65536) t 3 (by omega) (by omega) g7 g8 (by omega)
  simp only [Nat.mul_zero, Nat.mul_one, Int.pow_zero, Int.mul_one, Int.zero_add, show (2 : Int) ^ 8 = 256 by decide, show (2 : Int) ^ (8 * 2) = 65536 by decide, show (2 : Int) ^ (8 * 3) = 16777216 by decide] at H1 H2 H3 H4
  rw [show x % 4294967296 = x by omega] at H1
  rw [show y * 256 % 4294967296 = y * 256 by omega] at H2
  rw [show z * 65536 % 4294967296 = z * 65536 by omega] at H3
  rw [show t * 16777216 % 4294967296 = t * 16777216 by omega] at H4
  rw [H1, H2, H3, H4]
  omega
end Wd

set_option maxHeartbeats 400000 in
theorem rot_any (x k : Int) (w : World) (h1 : 0 ≤ x) (h2 : x ≤ 4294967295) :
    Calls Try.prog 15 #[.int .u32 x, .int .i64 k] w fun e w' => ∃ y : Int, e = .returned (.int .u32 y) ∧ 0 ≤ y ∧ y ≤ 4294967295 ∧ Hid (y = (Wd.rot x.toNat (k % 32).toNat : Nat)) ∧ ∃ n, w' = w.drewN n := by
  have HE : Hid _ := Wd.rot_int x k h1 h2
  have HA : Hid _ := Wd.and31 k
  have HL : Hid _ := Wd.hor_lt (fun i => x.toNat.testBit (if i < (k % 32).toNat then i + 32 - (k % 32).toNat else i - (k % 32).toNat)) 32 0
  have b0 : 0 ≤ bits BinOp.and IntKind.i64 k 31 := by rw [HA.out]; omega
  have b1 : bits BinOp.and IntKind.i64 k 31 ≤ 31 := by rw [HA.out]; omega
  go_enter Try.func15, Try.ntmps15
  go_wp2
  go_quiet (fail)
  go_wp2
  go_ret
  refine ⟨(Wd.rot x.toNat (k % 32).toNat : Nat), ret_int ?_, by omega, ?_, rfl, _, rfl⟩
  · rw [← HE.out, ← HA.out]
  · have := HL.out
    unfold Wd.rot
    omega
set_option maxHeartbeats 400000 in
theorem fold_one (x y : Int) (w : World) (h1 : 0 ≤ x) (h2 : x ≤ 4294967295) (h3 : 0 ≤ y) (h4 : y ≤ 4294967295) :
    Calls Try.prog 14 #[.int .u32 x, .int .u32 y] w fun e w' => ∃ c : Int, e = .returned (.int .u32 c) ∧ 0 ≤ c ∧ c ≤ 4294967295 ∧ Hid (c = Wd.fold1 x y) ∧ ∃ m, w' = w.drewN m := by
  have HR5 : Hid _ := Wd.rot5 x h1 h2
  have HB : Hid _ := Wd.fold1_bd x y
  go_enter Try.func14, Try.ntmps14
  go_wp2_with (go_at_call 15; refine (rot_any _ _ _ ?_ ?_).mono ?_; omega; omega; rintro e w' ⟨r, rfl, hr0, hr1, HR, n, rfl⟩)
  go_ret
  refine ⟨Wd.fold1 x y, ret_int ?_, HB.out.1, HB.out.2, rfl, _, rfl⟩
  rw [Wd.fold1, ← HR5.out, ← HR.out]
set_option maxHeartbeats 400000 in
theorem impl_fold (a : Option Addr) (cap : Nat) (zs : List Int) (w : World) (hs : Seg .u32 w a zs) (hn : zs.length ≤ 1048576) (hz : ∀ z ∈ zs, (Lit.int .u32 z).wf = true) :
    Calls Try.prog 6 #[.slice a zs.length cap] w fun e w' => e = .returned (.int .u32 (Wd.folds zs)) ∧ ∃ m, w' = w.drewN m := by
  obtain ⟨n, Hn⟩ : ∃ n, Hid (n = zs.length) := ⟨_, rfl⟩
  have hn' : n ≤ 1048576 := by rw [Hn.out]; exact hn
  rw [← Hn.out]
  clear hn
  have Hz : Hid _ := hz
  clear hz
  go_enter Try.func6, Try.ntmps6
  go_wp2
  go_loopw [3, 8] (fun h i wr => ∃ (k : Nat) (c : Int) (m : Nat), k ≤ n ∧ i = .int .i64 k ∧ h = .int .u32 c ∧ 0 ≤ c ∧ c ≤ 4294967295 ∧ Hid (c = Wd.folds (zs.take k)) ∧ wr = w.drewN m) (fun _ i _ => n - (intOf i).toNat)
  case atStart => exact ⟨0, 1, 0, by omega, rfl, rfl, by omega, by omega, rfl, rfl⟩
  case round =>
    obtain ⟨k, c, m, hk, rfl, rfl, hc0, hc1, HC, rfl⟩ := hrel
    by_cases hlt : k < n
    · have hl : k < zs.length := by rw [← Hn.out]; exact hlt
      obtain ⟨b1, o1, rfl, hbl1, hcl⟩ := hs.at k hl
      have hb := bounds_u32 (Hz.out _ (getD_mem zs k hl))
      have HF : Hid _ := Wd.folds_snoc zs k hl
      generalize zs.getD k 0 = z at hcl hb HF
      obtain ⟨hz0, hz1⟩ := hb
      clear hs hl hbl1
      go_wp2_with (go_at_call 14; refine (fold_one _ _ _ ?_ ?_ ?_ ?_).mono ?_; omega; omega; omega; omega; rintro e w' ⟨r, rfl, hr0, hr1, HR, n2, rfl⟩)
      go_roundw
      case rel => exact ⟨k + 1, r, _, by omega, by go_num, rfl, hr0, hr1, by rw [HF.out, ← HC.out, ← HR.out]; exact rfl, rfl⟩
      case measure => simp [intOf]; omega
    · go_wp2
      go_ret
      obtain rfl : k = n := by omega
      exact ⟨ret_int (by rw [HC.out, Hn.out, List.take_length]), _, rfl⟩


set_option maxHeartbeats 400000 in
theorem rotword_any (x k : Int) (w : World) (h1 : 0 ≤ x) (h2 : x ≤ 4294967295) :
    Calls Try.prog 8 #[.int .u32 x, .int .i64 k] w fun e w' => ∃ y : Int, e = .returned (.int .u32 y) ∧ 0 ≤ y ∧ y ≤ 4294967295 ∧ Hid (y = (Wd.rot x.toNat (k % 32).toNat : Nat)) ∧ ∃ n, w' = w.drewN n := by
  go_enter Try.func8, Try.ntmps8
  go_wp2_with (go_at_call 15; refine (rot_any _ _ _ ?_ ?_).mono ?_; omega; omega; rintro e w' ⟨r, rfl, hr0, hr1, HR, n, rfl⟩)
  go_ret
  exact ⟨_, rfl, hr0, hr1, HR, _, rfl⟩
set_option maxHeartbeats 400000 in
theorem at_any (w : World) (a : Option Addr) (zs : List Int) (cap : Nat) (i : Int) (hs : Seg .u8 w a zs) (hb : ∀ z ∈ zs, (Lit.int .u8 z).wf = true) (hn : zs.length ≤ 1048576) (hi0 : 0 ≤ i) (hi1 : i ≤ 1000000) :
    Calls Try.prog 9 #[.slice a zs.length cap, .int .i64 i] w fun e w' => ∃ x : Int, e = .returned (.int .i64 x) ∧ 0 ≤ x ∧ x ≤ 255 ∧ w' = w := by
  have HB : Hid _ := hb
  clear hb
  by_cases hlt : i < (zs.length : Int)
  · obtain ⟨k, rfl⟩ := Int.eq_ofNat_of_zero_le hi0
    have hl : k < zs.length := by omega
    obtain ⟨b1, o1, rfl, hbl1, hcl⟩ := hs.at k hl
    have hbz := bounds_u8 (HB.out _ (getD_mem zs k hl))
    generalize zs.getD k 0 = z at hcl hbz
    generalize zs.length = n at hlt hn hl
    obtain ⟨hz0, hz1⟩ := hbz
    go_enter Try.func9, Try.ntmps9
    go_wp2
    go_ret
    exact ⟨_, rfl, hz0, hz1, rfl⟩
  · generalize zs.length = n at hlt hn
    go_enter Try.func9, Try.ntmps9
    go_wp2
    go_ret
    exact ⟨_, rfl, by omega, by omega, rfl⟩
set_option maxHeartbeats 400000 in
theorem word_any (w : World) (a : Option Addr) (zs : List Int) (cap : Nat) (i : Int) (hs : Seg .u8 w a zs) (hb : ∀ z ∈ zs, (Lit.int .u8 z).wf = true) (hn : zs.length ≤ 1048576) (hi0 : 0 ≤ i) (hi1 : i ≤ 1000) :
    Calls Try.prog 7 #[.slice a zs.length cap, .int .i64 i] w fun e w' => ∃ x : Int, e = .returned (.int .u32 x) ∧ 0 ≤ x ∧ x ≤ 4294967295 ∧ w' = w := by
  have HB : Hid _ := hb
  clear hb
  go_enter Try.func7, Try.ntmps7
  go_wp2_with fail
  refine (at_any _ _ _ _ _ hs HB.out hn ?_ ?_).mono ?_
  · omega
  · omega
  rintro e w1 ⟨x, rfl, hx0, hx1, rfl⟩
  go_wp2_with fail
  refine (at_any _ _ _ _ _ hs HB.out hn ?_ ?_).mono ?_
  · omega
  · omega
  rintro e w2 ⟨y, rfl, hy0, hy1, rfl⟩
  go_wp2_with fail
  refine (at_any _ _ _ _ _ hs HB.out hn ?_ ?_).mono ?_
  · omega
  · omega
  rintro e w3 ⟨z, rfl, hz0, hz1, rfl⟩
  go_wp2_with fail
  refine (at_any _ _ _ _ _ hs HB.out hn ?_ ?_).mono ?_
  · omega
  · omega
  rintro e w4 ⟨t, rfl, ht0, ht1, rfl⟩
  go_wp2
  go_ret
  exact ⟨_, rfl, by omega, by omega, rfl⟩
set_option maxHeartbeats 400000 in
theorem size_any (w : World) (a : Option Addr) (n cap : Nat) (hn : n ≤ 1048576) :
    Calls Try.prog 13 #[.slice a n cap, .int .i64 40] w fun e w' => ∃ x : Int, e = .returned (.int .i64 x) ∧ 2 ≤ x ∧ x ≤ 40 ∧ w' = w := by
  by_cases h : 40 < 2 + (n : Int) / 20
  · go_enter Try.func13, Try.ntmps13
    go_wp2
    go_ret
    exact ⟨_, rfl, by omega, by omega, rfl⟩
  · go_enter Try.func13, Try.ntmps13
    go_wp2
    go_ret
    exact ⟨_, rfl, by omega, by omega, rfl⟩

/-! ### Rows that grow -/
theorem info26 : (Try.prog.info? 26).map (fun i => (i.zero, i.size, i.bytes)) = some (some (.int .u32 0), 1, 4) := by kernel_rfl
theorem Turn.grown {B : Nat} {w w' : World} (h : Turn B w w') : w.grownBy w' (some B) := ⟨h.os, h.tape, h.output, h.size, fun k hk hn => h.block k hk (fun e => hn (by rw [e]))⟩
/-- A row that is owned reads as its numbers. -/
theorem owns_own {w : World} {base : Nat} {e : TypeId} {k : IntKind} {v : Value} {zs : List Int} (h : w.ownsRow base e 1 v zs.length (zs.map (Value.int k))) (hv : v ≠ .slice none 0 0) :
    ∃ g cap, v = .slice (some ⟨g, 0, none⟩) zs.length cap ∧ base ≤ g ∧ Own k w g zs := by
  rcases h.2 with ⟨e1, _⟩ | ⟨g, cap, cur, e1, hb, hg, hnc, hcm, hcs, htk⟩
  · exact absurd e1 hv
  · have hlt : g < w.heap.size := (Array.getElem?_eq_some_iff.1 hg).1
    refine ⟨g, cap, e1, hb, hlt, fun i hi => ?_, fun i => ?_⟩
    · have h1 : (cur.toList.take (zs.length * 1))[i]? = some (.int k (zs.getD i 0)) := by
        rw [htk]
        simp [List.getD, hi]
      rw [List.getElem?_take, if_pos (by omega)] at h1
      simp only [World.cell?, hg]
      simpa using h1
    · simp [World.frozen?, hg]

end Go.Proofs.Ytbapnfocifnacad
