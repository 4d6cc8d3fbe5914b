/-
  What the laws' own helpers on slices return: a copy, and whether two slices read alike. Conditions: the slices that come in read as integers, and are at most 1048576 long where they are copied.
-/
import Derived.Test.YtdjapcfejmhjnaaDoorProg
import Derived.Test.YtdjapcfejmhjnaaDoorSegs
import Derived.Deep.QuietTactic
import Derived.BigQuiet
namespace Go.Proofs.YtdjapcfejmhjnaaDoor
open Go.ChangeShapes Go.WideShapes Go.ChangeAt Go.RowKit Go.Deep
set_option linter.unusedVariables false

theorem info27 : (Tryd.prog.info? 27).map (fun i => (i.zero, i.size, i.bytes)) = some (some (.int .u32 0), 1, 4) := by kernel_rfl

set_option maxHeartbeats 400000 in
theorem to_words (a : Option Addr) (cap : Nat) (zs : List Int) (w : World) (hs : Seg .u32 w a zs) (hn : zs.length ≤ 1048576) :
    Calls Tryd.prog 31 #[.slice a zs.length cap] w fun e w' => e = .returned (.slice (some ⟨w.heap.size, 0, none⟩) zs.length zs.length) ∧ Below w.heap.size w w' ∧ w'.heap.size = w.heap.size + 1 ∧ Own .u32 w' w.heap.size zs := by
  obtain ⟨n, Hn⟩ : ∃ n, Hid (n = zs.length) := ⟨_, rfl⟩
  have hn' : n ≤ 1048576 := by rw [Hn.out]; exact hn
  rw [← Hn.out]
  clear hn
  have hmk := run_make_row' (P := Tryd.prog) 43 27 (.int .u32 0) 4 Tryd.underlying43 info27 rfl .i64 .i64 n (by omega) (by omega)
  go_enter Tryd.func31, Tryd.ntmps31
  go_wp2
  go_loopw [4] (fun i wr => ∃ k : Nat, k ≤ n ∧ i = .int .i64 k ∧ Below w.heap.size w wr ∧ wr.heap.size = w.heap.size + 1 ∧ Own .u32 wr w.heap.size (zs.take k ++ List.replicate (zs.length - k) 0)) (fun i _ => n - (intOf i).toNat)
  case atStart => exact ⟨0, by omega, rfl, (Below.refl _ _).alloc (Nat.le_refl _) _, by simp, by simpa [Hn.out] using Own.made .u32 w zs.length 27 0⟩
  case round =>
    obtain ⟨k, hk, rfl, hb, hsz, HO⟩ := hrel
    by_cases hlt : k < n
    · have hl : k < zs.length := by rw [← Hn.out]; exact hlt
      obtain ⟨b, off, rfl, hbl, hc⟩ := hs.at k hl
      have hc1 : wr.cell? ⟨b, off + k, none⟩ = some (.int .u32 (zs.getD k 0)) := (hb.cell (p := ⟨b, off + k, none⟩) hbl).trans hc
      have hlc := copy_len zs k (by omega)
      have HO2 := HO.set k (zs.getD k 0) (by omega)
      rw [copy_step zs k hl] at HO2
      obtain ⟨u, hu⟩ : ∃ u, wr.cell? ⟨w.heap.size, k, none⟩ = some u := ⟨_, HO.cell k (by omega)⟩
      have hf := HO.free k
      have hb2 := hb.setCell (p := ⟨w.heap.size, k, none⟩) (Nat.le_refl _) (.int .u32 (zs.getD k 0))
      generalize zs.getD k 0 = z at hc1 HO2 hb2
      have HB2 : Hid _ := hb2
      clear hc hl hlc HO hb2
      go_wp2
      go_roundw
      case rel => exact ⟨k + 1, by omega, by go_num, HB2, by simpa using hsz, HO2⟩
      case measure => simp [intOf]; omega
    · go_wp2
      go_ret
      obtain rfl : k = n := by omega
      have h3 := HO
      rw [Hn.out, List.take_length, Nat.sub_self, List.replicate_zero, List.append_nil] at h3
      exact ⟨rfl, hb, hsz, h3⟩

set_option maxHeartbeats 400000 in
theorem eq_words (a b : Option Addr) (ca cb : Nat) (zs : List Int) (w : World) (ha : Seg .u32 w a zs) (hb : Seg .u32 w b zs) (hn : zs.length ≤ 1048576) :
    Calls Tryd.prog 24 #[.slice a zs.length ca, .slice b zs.length cb] w fun e w' => e = .returned (.bool true) ∧ ∃ m, w' = w.drewN m := by
  obtain ⟨n, Hn⟩ : ∃ n, Hid (n = zs.length) := ⟨_, rfl⟩
  have hn' : n ≤ 1048576 := by rw [Hn.out]; exact hn
  rw [← Hn.out]
  clear hn
  go_enter Tryd.func24, Tryd.ntmps24
  go_wp2
  go_loopw [5] (fun i wr => ∃ k m : Nat, k ≤ n ∧ i = .int .i64 k ∧ wr = w.drewN m) (fun i _ => n - (intOf i).toNat)
  case atStart => exact ⟨0, 0, by omega, rfl, rfl⟩
  case round =>
    obtain ⟨k, m, hk, rfl, rfl⟩ := hrel
    by_cases hlt : k < n
    · have hl : k < zs.length := by rw [← Hn.out]; exact hlt
      obtain ⟨b1, o1, rfl, hbl1, hc1⟩ := ha.at k hl
      obtain ⟨b2, o2, rfl, hbl2, hc2⟩ := hb.at k hl
      generalize zs.getD k 0 = z at hc1 hc2
      clear ha hb hl hbl1 hbl2
      go_wp2
      go_quiet (fail)
      go_wp2
      go_roundw
      case rel => exact ⟨k + 1, _, by omega, by go_num, rfl⟩
      case measure => simp [intOf]; omega
    · go_wp2
      go_ret
      exact ⟨rfl, _, rfl⟩

end Go.Proofs.YtdjapcfejmhjnaaDoor
