/-
  What BytesOf returns (the specification's and the program's own, the same four bytes, in memory of its own), and what the laws' helpers that mark a slice and look the marks up do. Conditions: a slice that is marked is the call's own.
-/
import Derived.Test.YtbapnfocifnacakFold
namespace Go.Proofs.Ytbapnfocifnacak
open Go.ChangeShapes Go.WideShapes Go.ChangeAt Go.RowKit Go.Deep
set_option linter.unusedVariables false

namespace Wd
def bytes (x : Int) : List Int := [x % 256, x / 256 % 256, x / 65536 % 256, x / 16777216]
/-- The marks 'k', 'k + 1', .. as bytes. -/
def marks (k : Int) (n : Nat) : List Int := (List.range n).map fun (i : Nat) => (k + (i : Int)) % 256
theorem marks_len (k : Int) (n : Nat) : (marks k n).length = n := by simp [marks]
theorem marks_snoc (k : Int) (n : Nat) : marks k (n + 1) = marks k n ++ [(k + (n : Int)) % 256] := by simp [marks, List.range_succ]
theorem marks_at (k : Int) (n i : Nat) (hi : i < n) : (marks k n).getD i 0 = (k + (i : Int)) % 256 := by simp [marks, hi, List.getD]
theorem set_step (l zs : List Int) (i : Nat) (v : Int) (hl : l.length = i) (hi : i < zs.length) : (l ++ zs.drop i).set i v = (l ++ [v]) ++ zs.drop (i + 1) := by
  rw [List.set_append, if_neg (by omega), show i - l.length = 0 by omega, List.drop_eq_getElem_cons hi, List.set_cons_zero, List.append_assoc, List.singleton_append]
end Wd

theorem Own.below' {k : IntKind} {w w' : World} {B C : Nat} {zs : List Int} (h : Own k w B zs) (hb : Below C w w') (hC : B < C) : Own k w' B zs :=
  ⟨Nat.lt_of_lt_of_le h.lt hb.size, fun i hi => (hb.cell (p := ⟨B, i, none⟩) hC).trans (h.cell i hi), fun i => (hb.frozen (p := ⟨B, i, none⟩) hC).trans (h.free i)⟩
theorem own_four (w : World) (a b c d : Int) (T : TypeId) : Own .u8 (w.alloc (.cells #[.int .u8 a, .int .u8 b, .int .u8 c, .int .u8 d] T)) w.heap.size [a, b, c, d] := by
  have h := World.rowIs_alloc w #[.int .u8 a, .int .u8 b, .int .u8 c, .int .u8 d] T (fun i => .int .u8 ([a, b, c, d].getD i 0)) (by
    intro i hi
    match i, hi with
    | 0, _ => rfl
    | 1, _ => rfl
    | 2, _ => rfl
    | 3, _ => rfl)
  exact ⟨by simp, fun i hi => h.cell hi, fun i => h.frozen i⟩
set_option maxHeartbeats 400000 in
theorem mark_bytes (B cap : Nat) (k : Int) (zs : List Int) (w : World) (ho : Own .u8 w B zs) (hn : zs.length ≤ 1048576) (hk0 : 0 ≤ k) (hk1 : k ≤ 1000000000) :
    Calls Try.prog 11 #[.slice (some ⟨B, 0, none⟩) zs.length cap, .int .i64 k] w fun e w' => e = .returned (.int .i64 (k + (zs.length : Int))) ∧ Below B w w' ∧ w'.heap.size = w.heap.size ∧ Own .u8 w' B (Wd.marks k zs.length) := by
  obtain ⟨n, Hn⟩ : ∃ n, Hid (n = zs.length) := ⟨_, rfl⟩
  have hn' : n ≤ 1048576 := by rw [Hn.out]; exact hn
  rw [← Hn.out]
  clear hn
  go_enter Try.func11, Try.ntmps11
  go_wp2
  go_loopw [1, 5] (fun t i wr => ∃ m : Nat, m ≤ n ∧ i = .int .i64 m ∧ t = .int .i64 (k + (m : Int)) ∧ Hid (Below B w wr ∧ wr.heap.size = w.heap.size ∧ Own .u8 wr B (Wd.marks k m ++ zs.drop m))) (fun _ i _ => n - (intOf i).toNat)
  case atStart => exact ⟨0, by omega, rfl, by go_num, ⟨Below.refl _ _, rfl, by simpa [Wd.marks] using ho⟩⟩
  case round =>
    obtain ⟨m, hm, rfl, rfl, HR⟩ := hrel
    by_cases hlt : m < n
    · have hl : m < zs.length := by rw [← Hn.out]; exact hlt
      obtain ⟨hb, hsz, HO⟩ := HR.out
      have hlc : m < (Wd.marks k m ++ zs.drop m).length := by rw [List.length_append, Wd.marks_len, List.length_drop]; omega
      have HO2 := HO.set m ((k + (m : Int)) % 256) hlc
      rw [Wd.set_step _ zs m _ (Wd.marks_len k m) hl, ← Wd.marks_snoc] at HO2
      obtain ⟨u, hu⟩ : ∃ u, wr.cell? ⟨B, m, none⟩ = some u := ⟨_, HO.cell m hlc⟩
      have hf := HO.free m
      have hb2 := hb.setCell (p := ⟨B, m, none⟩) (Nat.le_refl _) (.int .u8 ((k + (m : Int)) % 256))
      have HR2 : Hid _ := And.intro hb2 (And.intro (show (wr.setCell ⟨B, m, none⟩ (.int .u8 ((k + (m : Int)) % 256))).heap.size = w.heap.size by simpa using hsz) HO2)
      clear hb hsz HO hl hlc HO2 hb2 HR
      go_wp2
      go_roundw
      case rel => exact ⟨m + 1, by omega, by go_num, by go_num, HR2⟩
      case measure => simp [intOf]; omega
    · go_wp2
      go_ret
      obtain rfl : m = n := by omega
      obtain ⟨hb, hsz, HO⟩ := HR.out
      rw [show zs.drop m = [] by rw [Hn.out]; simp, List.append_nil] at HO
      exact ⟨rfl, hb, hsz, HO⟩
set_option maxHeartbeats 400000 in
theorem held_bytes (a : Option Addr) (cap n : Nat) (k : Int) (w : World) (hs : Seg .u8 w a (Wd.marks k n)) (hn : n ≤ 1048576) (hk0 : 0 ≤ k) (hk1 : k ≤ 1000000000) :
    Calls Try.prog 12 #[.slice a n cap, .int .i64 k] w fun e w' => e = .returned (.int .i64 (k + (n : Int))) ∧ ∃ m, w' = w.drewN m := by
  go_enter Try.func12, Try.ntmps12
  go_wp2
  go_loopw [1, 5] (fun t i wr => ∃ m j : Nat, m ≤ n ∧ i = .int .i64 m ∧ t = .int .i64 (k + (m : Int)) ∧ wr = w.drewN j) (fun _ i _ => n - (intOf i).toNat)
  case atStart => exact ⟨0, 0, by omega, rfl, by go_num, rfl⟩
  case round =>
    obtain ⟨m, j, hm, rfl, rfl, rfl⟩ := hrel
    by_cases hlt : m < n
    · obtain ⟨b1, o1, rfl, hbl1, hcl⟩ := hs.at m (by rw [Wd.marks_len]; exact hlt)
      rw [Wd.marks_at k n m hlt] at hcl
      clear hs hbl1
      go_wp2
      go_roundw
      case rel => exact ⟨m + 1, _, by omega, by go_num, by go_num, rfl⟩
      case measure => simp [intOf]; omega
    · go_wp2
      go_ret
      obtain rfl : m = n := by omega
      exact ⟨rfl, _, rfl⟩
set_option maxHeartbeats 400000 in
theorem spec_bytes (x : Int) (w : World) (h1 : 0 ≤ x) (h2 : x ≤ 4294967295) :
    Calls Try.prog 8 #[.int .u32 x] w fun e w' => e = .returned (.slice (some ⟨w.heap.size, 0, none⟩) 4 4) ∧ Below w.heap.size w w' ∧ w'.heap.size = w.heap.size + 1 ∧ Own .u8 w' w.heap.size (Wd.bytes x) := by
  go_enter Try.func8, Try.ntmps8
  go_wp2
  go_ret
  exact ⟨rfl, (Below.refl _ _).alloc (Nat.le_refl _) _, by simp, own_four w _ _ _ _ 5⟩
set_option maxHeartbeats 400000 in
theorem impl_bytes (x : Int) (w : World) (h1 : 0 ≤ x) (h2 : x ≤ 4294967295) :
    Calls Try.prog 9 #[.int .u32 x] w fun e w' => e = .returned (.slice (some ⟨w.heap.size, 0, none⟩) 4 4) ∧ Below w.heap.size w w' ∧ w'.heap.size = w.heap.size + 1 ∧ Own .u8 w' w.heap.size (Wd.bytes x) := by
  have hmk : ∀ w : World, (Instr.makeSlice 23 (.int .i64 4) (.int .i64 4)).run Try.prog w = .ok (.slice (some ⟨w.heap.size, 0, none⟩) 4 4) (w.alloc (.cells #[.int .u8 0, .int .u8 0, .int .u8 0, .int .u8 0] 5)) := fun _ => by kernel_rfl
  go_enter Try.func9, Try.ntmps9
  go_wp2
  refine wp_loop_rounds 5 ?_
  rw [rounds_succ]
  go_wp2
  rw [rounds_succ]
  go_wp2
  rw [rounds_succ]
  go_wp2
  rw [rounds_succ]
  go_wp2
  rw [rounds_succ]
  go_wp2
  go_ret
  exact ⟨rfl, (Below.refl _ _).alloc (Nat.le_refl _) _, by simp, own_four w _ _ _ _ 5⟩
end Go.Proofs.Ytbapnfocifnacak
