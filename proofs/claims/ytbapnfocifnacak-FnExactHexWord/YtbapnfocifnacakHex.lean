/-
  What HexWord returns: the specification's and the program's own, the same text of eight digits. Conditions: the argument is a word.
-/
import Derived.Test.YtbapnfocifnacakFold
namespace Go.Proofs.Ytbapnfocifnacak
open Go.ChangeShapes Go.WideShapes Go.ChangeAt Go.RowKit Go.Deep
set_option linter.unusedVariables false

namespace Wd
def hexdig (d : Int) : Int := if d < 10 then 48 + d else 87 + d
theorem hexdig_bd (d : Int) (h0 : 0 ≤ d) (h1 : d ≤ 15) : 48 ≤ hexdig d ∧ hexdig d ≤ 102 := by unfold hexdig; split <;> omega
/-- The last 'k' digits of 'x'. -/
def hexL (x : Int) : Nat → List Int
  | 0 => []
  | k + 1 => hexdig (x / 16 ^ k % 16) :: hexL x k
theorem hexL_len (x : Int) : ∀ k, (hexL x k).length = k
  | 0 => rfl
  | k + 1 => by simp [hexL, hexL_len x k]
/-- A text of bytes. -/
def txt (l : List Int) : ByteArray := ⟨(l.map fun n => UInt8.ofNat n.toNat).toArray⟩
theorem txt_size (l : List Int) : (txt l).size = l.length := by simp [txt, ByteArray.size]
theorem txt_cons (d : Int) (l : List Int) : txt [d] ++ txt l = txt (d :: l) := by
  apply ByteArray.ext
  simp [txt]
theorem txt_fold (l : List Int) : l.foldl (fun r n => r.push (UInt8.ofNat n.toNat)) ByteArray.empty = txt l := by
  have : ∀ (l : List Int) (r : ByteArray), l.foldl (fun r n => r.push (UInt8.ofNat n.toNat)) r = r ++ txt l := by
    intro l
    induction l with
    | nil => intro r; apply ByteArray.ext; simp [txt]
    | cons d l ih =>
      intro r
      rw [List.foldl_cons, ih]
      apply ByteArray.ext
      simp [txt]
  rw [this]
  apply ByteArray.ext
  simp [txt]
/-- The four lowest bits of a turned word. -/
theorem rot_low (x : Nat) (hx : x < 4294967296) (i : Nat) (hi : i < 8) : rot x ((4 * ((i : Int) + 1)) % 32).toNat % 16 = x / 16 ^ (7 - i) % 16 := by
  have e16 : (16 : Nat) ^ (7 - i) = 2 ^ (4 * (7 - i)) := by rw [Nat.pow_mul]
  rw [e16, show (16 : Nat) = 2 ^ 4 by decide]
  apply Nat.eq_of_testBit_eq
  intro j
  rw [Nat.testBit_mod_two_pow, Nat.testBit_mod_two_pow, rot, hor_bit, Nat.testBit_div_two_pow]
  by_cases hj : j < 4
  · have hj2 : j < 32 := by omega
    by_cases h7 : i = 7
    · subst h7
      simp [hj, hj2]
    · have e : ((4 * ((i : Int) + 1)) % 32).toNat = 4 * (i + 1) := by omega
      rw [e, if_pos (by omega)]
      simp only [hj, hj2, decide_true, Bool.true_and]
      congr 1
      omega
  · simp [hj]
theorem low_and (r : Int) (h0 : 0 ≤ r) (h1 : r ≤ 4294967295) : bits .and .u32 r 15 = r % 16 := by
  obtain ⟨R, rfl⟩ := Int.eq_ofNat_of_zero_le h0
  rw [u32_and _ _ (by omega) (by omega) (by omega) (by omega)]
  have := Nat.and_two_pow_sub_one_eq_mod R 4
  simp only [Int.toNat_natCast]
  show ((R &&& 15 : Nat) : Int) = _
  rw [show (15 : Nat) = 2 ^ 4 - 1 by decide, this]
  omega
theorem hexL_at (x : Int) : ∀ (k i : Nat), i < k → (hexL x k).getD i 0 = hexdig (x / 16 ^ (k - 1 - i) % 16)
  | 0, i, h => absurd h (by omega)
  | k + 1, 0, _ => by simp [hexL]
  | k + 1, i + 1, h => by
    have := hexL_at x k i (by omega)
    rw [hexL, List.getD_cons_succ, this]
    congr 4
    omega
end Wd

theorem slice_hex (d : Int) (h0 : 0 ≤ d) (h1 : d ≤ 15) (w : World) : (Instr.slice 9 (.string ⟨#[48, 49, 50, 51, 52, 53, 54, 55, 56, 57, 97, 98, 99, 100, 101, 102]⟩) (some (.int .i64 d)) (some (.int .i64 (d + 1))) none).run Try.prog w = .ok (.string (Wd.txt [Wd.hexdig d])) w := by
  obtain rfl | rfl | rfl | rfl | rfl | rfl | rfl | rfl | rfl | rfl | rfl | rfl | rfl | rfl | rfl | rfl : d = 0 ∨ d = 1 ∨ d = 2 ∨ d = 3 ∨ d = 4 ∨ d = 5 ∨ d = 6 ∨ d = 7 ∨ d = 8 ∨ d = 9 ∨ d = 10 ∨ d = 11 ∨ d = 12 ∨ d = 13 ∨ d = 14 ∨ d = 15 := by omega
  all_goals kernel_rfl
theorem index_hex (d : Int) (h0 : 0 ≤ d) (h1 : d ≤ 15) (w : World) : (Instr.index 9 (.string ⟨#[48, 49, 50, 51, 52, 53, 54, 55, 56, 57, 97, 98, 99, 100, 101, 102]⟩) (.int .u32 d)).run Try.prog w = .ok (.int .u8 (Wd.hexdig d)) w := by
  obtain rfl | rfl | rfl | rfl | rfl | rfl | rfl | rfl | rfl | rfl | rfl | rfl | rfl | rfl | rfl | rfl : d = 0 ∨ d = 1 ∨ d = 2 ∨ d = 3 ∨ d = 4 ∨ d = 5 ∨ d = 6 ∨ d = 7 ∨ d = 8 ∨ d = 9 ∨ d = 10 ∨ d = 11 ∨ d = 12 ∨ d = 13 ∨ d = 14 ∨ d = 15 := by omega
  all_goals kernel_rfl
theorem ret_str {a b : ByteArray} (h : a = b) : Ending.returned (.string a) = .returned (.string b) := by rw [h]
theorem own_text (w : World) (B cap : Nat) (zs : List Int) (ho : Own .u8 w B zs) : (convert 23 9 (.slice (some ⟨B, 0, none⟩) zs.length cap)).run Try.prog w = .ok (.string (Wd.txt zs)) w := by
  rw [run_convert_bytes_string w 23 9 5 _ _ _ Try.underlying23 Try.underlying5 Try.underlying9, run_bytesToString w _ _ _ zs ?_, Wd.txt_fold]
  have h := run_loadCells_list (P := Try.prog) (w := w) ⟨B, 0, none⟩ (zs.map (Value.int .u8)) ?_
  · simpa using h
  · intro j v hj
    rw [List.getElem?_map] at hj
    obtain ⟨z, hz, rfl⟩ := Option.map_eq_some_iff.1 hj
    obtain ⟨hl, rfl⟩ := List.getElem?_eq_some_iff.1 hz
    have := ho.cell j hl
    have e : (⟨B, 0, none⟩ : Addr).add j = ⟨B, j, none⟩ := by
      by_cases h0 : j = 0
      · subst h0; simp [Addr.add]
      · simp [Addr.add, h0]
    rw [e, this]
    simp [List.getD, hl]

theorem own_zero8 (w : World) : Own .u8 (w.alloc (.cells #[.int .u8 0, .int .u8 0, .int .u8 0, .int .u8 0, .int .u8 0, .int .u8 0, .int .u8 0, .int .u8 0] 48)) w.heap.size (List.replicate 8 0) := by
  have h := World.rowIs_alloc w #[.int .u8 0, .int .u8 0, .int .u8 0, .int .u8 0, .int .u8 0, .int .u8 0, .int .u8 0, .int .u8 0] 48 (fun i => .int .u8 ((List.replicate 8 (0 : Int)).getD i 0)) (by
    intro i hi
    match i, hi with
    | 0, _ => rfl
    | 1, _ => rfl
    | 2, _ => rfl
    | 3, _ => rfl
    | 4, _ => rfl
    | 5, _ => rfl
    | 6, _ => rfl
    | 7, _ => rfl)
  exact ⟨by simp, fun i hi => h.cell hi, fun i => h.frozen i⟩
set_option maxHeartbeats 400000 in
theorem spec_hex (x : Int) (w : World) (h1 : 0 ≤ x) (h2 : x ≤ 4294967295) :
    Calls Try.prog 20 #[.int .u32 x] w fun e w' => e = .returned (.string (Wd.txt (Wd.hexL x 8))) ∧ w' = w := by
  go_enter Try.func20, Try.ntmps20
  go_wp2
  go_loop [3, 4, 5] (fun out n i => ∃ (k : Nat) (c : Int) (s : ByteArray), k ≤ 8 ∧ i = .int .i64 k ∧ n = .int .i64 c ∧ 0 ≤ c ∧ c ≤ 4294967295 ∧ out = .string s ∧ s.size ≤ 8 ∧ Hid (s = Wd.txt (Wd.hexL x k) ∧ c = x / 16 ^ k)) (fun _ _ i => 8 - (intOf i).toNat)
  case atStart => exact ⟨0, x, _, by omega, rfl, rfl, by omega, by omega, rfl, by decide, by simp [Hid, Wd.hexL, Wd.txt]⟩
  case round =>
    obtain ⟨k, c, s, hk, rfl, rfl, hc0, hc1, rfl, hs, HC⟩ := hrel
    by_cases hlt : k < 8
    · have hsl := slice_hex (c % 16) (by omega) (by omega)
      have HD : Hid (Wd.txt [Wd.hexdig (c % 16)] ++ s = Wd.txt (Wd.hexL x (k + 1)) ∧ c / 16 = x / 16 ^ (k + 1)) := by
        obtain ⟨rfl, rfl⟩ := HC.out
        refine ⟨?_, ?_⟩
        · rw [Wd.txt_cons]; rfl
        · rw [Int.ediv_ediv_of_nonneg (Int.pow_nonneg (by decide)), Int.pow_succ]
      have hd := Wd.txt_size [Wd.hexdig (c % 16)]
      have HZ : Hid ((Wd.txt [Wd.hexdig (c % 16)] ++ s).size ≤ 8) := by
        show _ ≤ 8
        rw [HD.out.1, Wd.txt_size, Wd.hexL_len]; omega
      generalize Wd.txt [Wd.hexdig (c % 16)] = t at hsl HD hd HZ
      have hd1 : t.size ≤ 1 := by rw [hd]; simp
      clear hd
      go_wp2
      go_round
      case rel => exact ⟨k + 1, c / 16, _, by omega, by go_num, rfl, by omega, by omega, rfl, HZ.out, HD⟩
      case measure => simp [intOf]; omega
    · go_wp2
      go_ret
      obtain rfl : k = 8 := by omega
      exact ⟨ret_str HC.out.1, rfl⟩

set_option maxHeartbeats 400000 in
theorem impl_hex (x : Int) (w : World) (h1 : 0 ≤ x) (h2 : x ≤ 4294967295) :
    Calls Try.prog 26 #[.int .u32 x] w fun e w' => e = .returned (.string (Wd.txt (Wd.hexL x 8))) ∧ Below w.heap.size w w' := by
  go_enter Try.func26, Try.ntmps26
  go_wp2
  go_loopw [5] (fun i wr => ∃ (k : Nat), k ≤ 8 ∧ i = .int .i64 k ∧ Below w.heap.size w wr ∧ Own .u8 wr w.heap.size ((Wd.hexL x 8).take k ++ List.replicate ((Wd.hexL x 8).length - k) 0)) (fun i _ => 8 - (intOf i).toNat)
  case atStart => exact ⟨0, by omega, rfl, (Below.refl _ _).alloc (Nat.le_refl _) _, by rw [Wd.hexL_len]; exact own_zero8 w⟩
  case round =>
    obtain ⟨k, hk, rfl, hb, ho⟩ := hrel
    have hl8 := Wd.hexL_len x 8
    by_cases hlt : k < 8
    · have hlc := copy_len (Wd.hexL x 8) k (by omega)
      obtain ⟨u, hu⟩ : ∃ u, wr.cell? ⟨w.heap.size, k, none⟩ = some u := ⟨_, ho.cell k (by omega)⟩
      have hf := ho.free k
      have HL : Hid _ := hl8
      have HLC : Hid _ := hlc
      clear hl8 hlc
      go_wp2_with fail
      refine (rot_any _ _ _ ?_ ?_).mono ?_
      · exact h1
      · exact h2
      rintro e w' ⟨r, rfl, hr0, hr1, HR, n, rfl⟩
      have hand := Wd.low_and r hr0 hr1
      have hix := index_hex (r % 16) (by omega) (by omega)
      have Hdig : Hid (Wd.hexdig (r % 16) = (Wd.hexL x 8).getD k 0) := by
        have hr2 := HR.out
        have := Wd.rot_low x.toNat (by omega) k hlt
        rw [Wd.hexL_at x 8 k hlt]
        show _ = _
        congr 1
        have e : r % 16 = ((Wd.rot x.toNat ((4 * ((k : Int) + 1)) % 32).toNat % 16 : Nat) : Int) := by rw [hr2]; omega
        rw [e, this]
        have ex : x = (x.toNat : Int) := by omega
        rw [show 8 - 1 - k = 7 - k by omega]
        generalize x.toNat = X at ex
        subst ex
        simp
      have HO2 : Hid (Own .u8 ((wr.drewN n).setCell ⟨w.heap.size, k, none⟩ (.int .u8 (Wd.hexdig (r % 16)))) w.heap.size ((Wd.hexL x 8).take (k + 1) ++ List.replicate ((Wd.hexL x 8).length - (k + 1)) 0)) := by
        rw [Hdig.out, ← copy_step _ k (by have := HL.out; omega)]
        exact (ho.drewN n).set k _ (by have := HLC.out; have := HL.out; omega)
      have HB2 : Hid (Below w.heap.size w ((wr.drewN n).setCell ⟨w.heap.size, k, none⟩ (.int .u8 (Wd.hexdig (r % 16))))) := (below_drewN hb n).setCell (Nat.le_refl _) _
      clear ho hb
      generalize Wd.hexdig (r % 16) = d at hix HO2 HB2
      go_wp2
      go_roundw
      case rel => exact ⟨k + 1, by omega, by go_num, HB2, HO2⟩
      case measure => simp [intOf]; omega
    · obtain rfl : k = 8 := by omega
      rw [hl8, List.take_of_length_le (by omega), Nat.sub_self, List.replicate_zero, List.append_nil] at ho
      have hcv := own_text wr w.heap.size 8 _ ho
      rw [hl8] at hcv
      clear hl8
      go_wp2
      go_ret
      exact ⟨rfl, hb⟩
set_option maxHeartbeats 400000 in
theorem impl_hexword (x : Int) (w : World) (h1 : 0 ≤ x) (h2 : x ≤ 4294967295) :
    Calls Try.prog 21 #[.int .u32 x] w fun e w' => e = .returned (.string (Wd.txt (Wd.hexL x 8))) ∧ Below w.heap.size w w' := by
  go_enter Try.func21, Try.ntmps21
  go_wp2_with (go_at_call 26; refine (impl_hex _ _ h1 h2).mono ?_; rintro e w' ⟨rfl, hb⟩)
  go_ret
  exact ⟨rfl, hb⟩

end Go.Proofs.Ytbapnfocifnacak
