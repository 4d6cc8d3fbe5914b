
/-
  What the laws' helpers on lists of numbers and on rows of bytes do: their measure, their copies, whether two read alike, the marks that are laid and looked up. Conditions: lengths are at most 1048576.
-/
import Derived.Test.YtgmhcngdgfhhaaaGreatDoorBas
import Derived.Test.YtgmhcngdgfhhaaaGreatDoorProg
import Derived.Test.YtgmhcngdgfhhaaaGreatDoorBys
import Derived.Deep.RegionHeld3
import Derived.Deep.QuietTactic
import Derived.BigQuiet
namespace Go.Proofs.YtgmhcngdgfhhaaaGreatDoor
open Go.ChangeShapes Go.WideShapes Go.ChangeAt Go.RowKit Go.Deep
set_option linter.unusedVariables false

theorem infoU : (Tryz.prog.info? 64).map (fun i => (i.zero, i.size, i.bytes)) = some (some (.int .u32 0), 1, 4) := by kernel_rfl
theorem infoB : (Tryz.prog.info? 5).map (fun i => (i.zero, i.size, i.bytes)) = some (some (.int .u8 0), 1, 1) := by kernel_rfl
theorem infoR : (Tryz.prog.info? 93).map (fun i => (i.zero, i.size, i.bytes)) = some (some (.slice none 0 0), 1, 24) := by kernel_rfl
theorem run_make_rows (n : Nat) (hn : n ≤ 1048576) (w : World) : (Instr.makeSlice 58 (.int .i64 (n : Int)) (.int .i64 (n : Int))).run Tryz.prog w = .ok (.slice (some ⟨w.heap.size, 0, none⟩) n n) (w.alloc (.cells (madeCells #[.slice none 0 0] n) 93)) :=
  run_make_row' (P := Tryz.prog) 58 93 (.slice none 0 0) 24 Tryz.underlying58 infoR rfl .i64 .i64 n (by omega) (by omega) w

theorem run_make_bytes (n : Nat) (hn : n ≤ 1048576) (w : World) : (Instr.makeSlice 93 (.int .i64 (n : Int)) (.int .i64 (n : Int))).run Tryz.prog w = .ok (.slice (some ⟨w.heap.size, 0, none⟩) n n) (w.alloc (.cells (madeCells #[.int .u8 0] n) 5)) :=
  run_make_row' (P := Tryz.prog) 93 5 (.int .u8 0) 1 Tryz.underlying93 infoB rfl .i64 .i64 n (by omega) (by omega) w
theorem sz_bytes (a : Option Addr) (cap n L : Nat) (w : World) (hn : n ≤ 9223372036854775807) (hL : L ≤ 1048576) :
    Calls Tryz.prog 50 #[.slice a n cap, .int .i64 (L : Int)] w fun e w' => (∃ r : Int, e = .returned (.int .i64 r) ∧ (r < 0 ∨ (r = ((L - n : Nat) : Int) ∧ n ≤ L))) ∧ w' = w := by
  by_cases h : n ≤ L
  · obtain ⟨d, rfl⟩ : ∃ d, L = n + d := ⟨L - n, by omega⟩
    have hw : IntKind.i64.wrap (((n + d : Nat) : Int) - (n : Int)) = (d : Int) := by rw [show ((n + d : Nat) : Int) - (n : Int) = (d : Int) by omega, IntKind.wrap_i64]; omega
    have h0 : ¬ ((d : Int) < 0) := by omega
    go_enter Tryz.func50, Tryz.ntmps50
    go_wp2
    go_ret
    exact ⟨⟨_, rfl, by omega⟩, rfl⟩
  · have hw : IntKind.i64.wrap ((L : Int) - (n : Int)) = (L : Int) - (n : Int) := by rw [IntKind.wrap_i64]; omega
    have h0 : (L : Int) - (n : Int) < 0 := by omega
    go_enter Tryz.func50, Tryz.ntmps50
    go_wp2
    go_ret
    exact ⟨⟨_, rfl, .inl (by omega)⟩, rfl⟩
set_option maxHeartbeats 1000000 in
theorem to_bytes (a : Option Addr) (cap n : Nat) (zs : List Int) (w : World) (hs : Seg .u8 w a zs) (hl : zs.length = n) (hn : n ≤ 1048576) :
    Calls Tryz.prog 57 #[.slice a n cap] w fun e w' => e = .returned (.slice (some ⟨w.heap.size, 0, none⟩) n n) ∧ Below w.heap.size w w' ∧ Own .u8 w' w.heap.size zs := by
  have hmk := run_make_bytes n hn
  have HS : Hid _ := And.intro hs hl
  clear hs hl
  go_enter Tryz.func57, Tryz.ntmps57
  go_wp2
  go_loopw [4] (fun i wr => ∃ k : Nat, k ≤ n ∧ i = .int .i64 k ∧ Hid (Below w.heap.size w wr ∧ Own .u8 wr w.heap.size (zs.take k ++ List.replicate (n - k) 0))) (fun i _ => n - (intOf i).toNat)
  case atStart => exact ⟨0, by omega, rfl, (Below.refl _ _).alloc (Nat.le_refl _) _, by simpa using Own.made .u8 w n 5 0⟩
  case round =>
    obtain ⟨k, hk, rfl, HB⟩ := hrel
    by_cases hlt : k < n
    · have hlt' : (k : Int) < (n : Int) := by omega
      have hkl : k < zs.length := by have := HS.out.2; omega
      obtain ⟨b1, o1, rfl, hbl1, c1⟩ := Seg.at (w := w) HS.out.1 k hkl
      have hb := HB.out.1
      have ho := HB.out.2
      replace c1 := (hb.cell (p := ⟨b1, o1 + k, none⟩) hbl1).trans c1
      have hl2 : (zs.take k ++ List.replicate (n - k) (0 : Int)).length = n := by rw [← HS.out.2]; exact copy_len zs k (by omega)
      have hu := ho.cell k (by omega)
      have hf := ho.free k
      have hset := ho.set k (zs.getD k 0) (by omega)
      rw [← HS.out.2, copy_step zs k hkl, HS.out.2] at hset
      have HB3 : Hid (Below w.heap.size w (wr.setCell ⟨w.heap.size, k, none⟩ (.int .u8 (zs.getD k 0))) ∧ Own .u8 (wr.setCell ⟨w.heap.size, k, none⟩ (.int .u8 (zs.getD k 0))) w.heap.size (zs.take (k + 1) ++ List.replicate (n - (k + 1)) 0)) :=
        ⟨hb.setCell (p := ⟨w.heap.size, k, none⟩) (Nat.le_refl _) _, hset⟩
      generalize zs.getD k 0 = z at c1 HB3
      generalize (zs.take k ++ List.replicate (n - k) (0 : Int)).getD k 0 = z0 at hu
      clear hbl1 hb ho hl2 hset HB hkl
      go_wp2
      go_roundw
      case rel => exact ⟨k + 1, by omega, by go_num, HB3⟩
      case measure => simp [intOf]; omega
    · obtain rfl : k = n := by omega
      go_wp2
      go_ret
      refine ⟨rfl, HB.out.1, ?_⟩
      have := HB.out.2
      have hl := HS.out.2
      subst hl
      simpa using this
set_option maxHeartbeats 400000 in
theorem eq_bytes (a b : Option Addr) (ca cb n : Nat) (zs : List Int) (w : World) (ha : Seg .u8 w a zs) (hb : Seg .u8 w b zs) (hl : zs.length = n) (hn : n ≤ 1048576) :
    Calls Tryz.prog 71 #[.slice a n ca, .slice b n cb] w fun e w' => e = .returned (.bool true) ∧ Below w.heap.size w w' := by
  have HS : Hid _ := And.intro ha (And.intro hb hl)
  clear ha hb hl
  go_enter Tryz.func71, Tryz.ntmps71
  go_wp2
  go_loopw [5] (fun i wr => ∃ k m : Nat, k ≤ n ∧ i = .int .i64 k ∧ wr = w.drewN m) (fun i _ => n - (intOf i).toNat)
  case atStart => exact ⟨0, 0, by omega, rfl, rfl⟩
  case round =>
    obtain ⟨k, m, hk, rfl, rfl⟩ := hrel
    by_cases hlt : k < n
    · have hl : k < zs.length := by have := HS.out.2.2; omega
      obtain ⟨b1, o1, rfl, hbl1, hc1⟩ := Seg.at (w := w) HS.out.1 k hl
      obtain ⟨b2, o2, rfl, hbl2, hc2⟩ := Seg.at (w := w) HS.out.2.1 k hl
      generalize zs.getD k 0 = z at hc1 hc2
      clear hl hbl1 hbl2
      go_wp2
      go_quiet (fail)
      go_wp2
      go_roundw
      case rel => exact ⟨k + 1, _, by omega, by go_num, rfl⟩
      case measure => simp [intOf]; omega
    · go_wp2
      go_ret
      exact ⟨rfl, below_drewN (Below.refl _ _) _⟩
end Go.Proofs.YtgmhcngdgfhhaaaGreatDoor
