
/-
  What the laws' helpers on lists of numbers and on rows of bytes do: their measure, their copies, whether two read alike, the marks that are laid and looked up. Conditions: lengths are at most 1048576.
-/
import Derived.Test.YtdmlgnmklnaehaaGreatDoorBas
import Derived.Test.YtdmlgnmklnaehaaGreatDoorProg
import Derived.Test.YtdmlgnmklnaehaaGreatDoorBys
import Derived.Deep.RegionHeld3
import Derived.Deep.QuietTactic
import Derived.BigQuiet
namespace Go.Proofs.YtdmlgnmklnaehaaGreatDoor
open Go.ChangeShapes Go.WideShapes Go.ChangeAt Go.RowKit Go.Deep
set_option linter.unusedVariables false

theorem infoU : (Tryz.prog.info? 84).map (fun i => (i.zero, i.size, i.bytes)) = some (some (.int .u32 0), 1, 4) := by kernel_rfl
theorem infoB : (Tryz.prog.info? 5).map (fun i => (i.zero, i.size, i.bytes)) = some (some (.int .u8 0), 1, 1) := by kernel_rfl
theorem infoR : (Tryz.prog.info? 82).map (fun i => (i.zero, i.size, i.bytes)) = some (some (.slice none 0 0), 1, 24) := by kernel_rfl
theorem run_make_rows (n : Nat) (hn : n ≤ 1048576) (w : World) : (Instr.makeSlice 34 (.int .i64 (n : Int)) (.int .i64 (n : Int))).run Tryz.prog w = .ok (.slice (some ⟨w.heap.size, 0, none⟩) n n) (w.alloc (.cells (madeCells #[.slice none 0 0] n) 82)) :=
  run_make_row' (P := Tryz.prog) 34 82 (.slice none 0 0) 24 Tryz.underlying34 infoR rfl .i64 .i64 n (by omega) (by omega) w

theorem run_make_regs (n : Nat) (hn : n ≤ 1048576) (w : World) : (Instr.makeSlice 32 (.int .i64 (n : Int)) (.int .i64 (n : Int))).run Tryz.prog w = .ok (.slice (some ⟨w.heap.size, 0, none⟩) n n) (w.alloc (.cells (madeCells #[.int .u32 0] n) 84)) :=
  run_make_row' (P := Tryz.prog) 32 84 (.int .u32 0) 4 Tryz.underlying32 infoU rfl .i64 .i64 n (by omega) (by omega) w
theorem sz_regs (a : Option Addr) (cap n L : Nat) (w : World) (hn : n ≤ 9223372036854775807) (hL : L ≤ 1048576) :
    Calls Tryz.prog 176 #[.slice a n cap, .int .i64 (L : Int)] w fun e w' => (∃ r : Int, e = .returned (.int .i64 r) ∧ (r < 0 ∨ (r = ((L - n : Nat) : Int) ∧ n ≤ L))) ∧ w' = w := by
  by_cases h : n ≤ L
  · obtain ⟨d, rfl⟩ : ∃ d, L = n + d := ⟨L - n, by omega⟩
    have hw : IntKind.i64.wrap (((n + d : Nat) : Int) - (n : Int)) = (d : Int) := by rw [show ((n + d : Nat) : Int) - (n : Int) = (d : Int) by omega, IntKind.wrap_i64]; omega
    have h0 : ¬ ((d : Int) < 0) := by omega
    go_enter Tryz.func176, Tryz.ntmps176
    go_wp2
    go_ret
    exact ⟨⟨_, rfl, by omega⟩, rfl⟩
  · have hw : IntKind.i64.wrap ((L : Int) - (n : Int)) = (L : Int) - (n : Int) := by rw [IntKind.wrap_i64]; omega
    have h0 : (L : Int) - (n : Int) < 0 := by omega
    go_enter Tryz.func176, Tryz.ntmps176
    go_wp2
    go_ret
    exact ⟨⟨_, rfl, .inl (by omega)⟩, rfl⟩
set_option maxHeartbeats 1000000 in
theorem to_regs (a : Option Addr) (cap n : Nat) (zs : List Int) (w : World) (hs : Seg .u32 w a zs) (hl : zs.length = n) (hn : n ≤ 1048576) :
    Calls Tryz.prog 8 #[.slice a n cap] w fun e w' => e = .returned (.slice (some ⟨w.heap.size, 0, none⟩) n n) ∧ Below w.heap.size w w' ∧ Own .u32 w' w.heap.size zs := by
  have hmk := run_make_regs n hn
  have HS : Hid _ := And.intro hs hl
  clear hs hl
  go_enter Tryz.func8, Tryz.ntmps8
  go_wp2
  go_loopw [4] (fun i wr => ∃ k : Nat, k ≤ n ∧ i = .int .i64 k ∧ Hid (Below w.heap.size w wr ∧ Own .u32 wr w.heap.size (zs.take k ++ List.replicate (n - k) 0))) (fun i _ => n - (intOf i).toNat)
  case atStart => exact ⟨0, by omega, rfl, (Below.refl _ _).alloc (Nat.le_refl _) _, by simpa using Own.made .u32 w n 84 0⟩
  case round =>
    obtain ⟨k, hk, rfl, HB⟩ := hrel
    by_cases hlt : k < n
    · have hlt' : (k : Int) < (n : Int) := by omega
      have hkl : k < zs.length := by have := HS.out.2; omega
      obtain ⟨b1, o1, rfl, hbl1, c1⟩ := Seg.at (w := w) HS.out.1 k hkl
      have hb := HB.out.1
      have ho := HB.out.2
      replace c1 := (hb.cell (p := ⟨b1, o1 + k, none⟩) hbl1).trans c1
      have hl2 : (zs.take k ++ List.replicate (n - k) (0 : Int)).length = n := by rw [← HS.out.2]; exact copy_len zs k (by omega)
      have hu := ho.cell k (by omega)
      have hf := ho.free k
      have hset := ho.set k (zs.getD k 0) (by omega)
      rw [← HS.out.2, copy_step zs k hkl, HS.out.2] at hset
      have HB3 : Hid (Below w.heap.size w (wr.setCell ⟨w.heap.size, k, none⟩ (.int .u32 (zs.getD k 0))) ∧ Own .u32 (wr.setCell ⟨w.heap.size, k, none⟩ (.int .u32 (zs.getD k 0))) w.heap.size (zs.take (k + 1) ++ List.replicate (n - (k + 1)) 0)) :=
        ⟨hb.setCell (p := ⟨w.heap.size, k, none⟩) (Nat.le_refl _) _, hset⟩
      generalize zs.getD k 0 = z at c1 HB3
      generalize (zs.take k ++ List.replicate (n - k) (0 : Int)).getD k 0 = z0 at hu
      clear hbl1 hb ho hl2 hset HB hkl
      go_wp2
      go_roundw
      case rel => exact ⟨k + 1, by omega, by go_num, HB3⟩
      case measure => simp [intOf]; omega
    · obtain rfl : k = n := by omega
      go_wp2
      go_ret
      refine ⟨rfl, HB.out.1, ?_⟩
      have := HB.out.2
      have hl := HS.out.2
      subst hl
      simpa using this
set_option maxHeartbeats 400000 in
theorem eq_regs (a b : Option Addr) (ca cb n : Nat) (zs : List Int) (w : World) (ha : Seg .u32 w a zs) (hb : Seg .u32 w b zs) (hl : zs.length = n) (hn : n ≤ 1048576) :
    Calls Tryz.prog 12 #[.slice a n ca, .slice b n cb] w fun e w' => e = .returned (.bool true) ∧ Below w.heap.size w w' := by
  have HS : Hid _ := And.intro ha (And.intro hb hl)
  clear ha hb hl
  go_enter Tryz.func12, Tryz.ntmps12
  go_wp2
  go_loopw [5] (fun i wr => ∃ k m : Nat, k ≤ n ∧ i = .int .i64 k ∧ wr = w.drewN m) (fun i _ => n - (intOf i).toNat)
  case atStart => exact ⟨0, 0, by omega, rfl, rfl⟩
  case round =>
    obtain ⟨k, m, hk, rfl, rfl⟩ := hrel
    by_cases hlt : k < n
    · have hl : k < zs.length := by have := HS.out.2.2; omega
      obtain ⟨b1, o1, rfl, hbl1, hc1⟩ := Seg.at (w := w) HS.out.1 k hl
      obtain ⟨b2, o2, rfl, hbl2, hc2⟩ := Seg.at (w := w) HS.out.2.1 k hl
      generalize zs.getD k 0 = z at hc1 hc2
      clear hl hbl1 hbl2
      go_wp2
      go_quiet (fail)
      go_wp2
      go_roundw
      case rel => exact ⟨k + 1, _, by omega, by go_num, rfl⟩
      case measure => simp [intOf]; omega
    · go_wp2
      go_ret
      exact ⟨rfl, below_drewN (Below.refl _ _) _⟩
set_option maxHeartbeats 1000000 in
theorem mark_regs (lo hi R cap k n : Nat) (a : Option Addr) (ws : List Int) (w : World) (ho : ON .u32 w lo hi a ws R) (hl : ws.length = n) (hn : n ≤ 1048576) (hk1 : k ≤ 1000000000) :
    Calls Tryz.prog 14 #[.slice a n cap, .int .i64 (k : Int)] w fun e w' => e = .returned (.int .i64 ((k + n : Nat) : Int)) ∧ Betw R (R + 1) w w' ∧ w'.heap.size = w.heap.size ∧ ON .u32 w' lo hi a (marksM 4294967296 k n) R ∧ (n = 0 → w' = w) := by
  by_cases h0 : n = 0
  · subst h0
    go_enter Tryz.func14, Tryz.ntmps14
    go_wp2
    refine wp_loop_rounds 1 ?_
    rw [rounds_succ]
    go_wp2
    go_ret
    exact ⟨ret_int (by simp), Betw.refl _ _ _, rfl, ON.nil _ _ _ _ _ _, fun _ => rfl⟩
  obtain ⟨off, rfl, h1, h2, hlt, hc, hf⟩ := ho (by omega)
  have HB : Hid (R < w.heap.size ∧ (∀ j, w.frozen? ⟨R, j, none⟩ = false) ∧ (∀ i, i < n → ∃ u, w.cell? ⟨R, off + i, none⟩ = some u) ∧ ∀ i, i < 0 → w.cell? ⟨R, off + i, none⟩ = some (.int .u32 ((marksM 4294967296 k n).getD i 0))) :=
    ⟨hlt, hf, fun i hi => ⟨_, hc i (by omega)⟩, fun i hi => absurd hi (by omega)⟩
  clear ho hc hf hl
  go_enter Tryz.func14, Tryz.ntmps14
  go_wp2
  go_loopw [1, 5] (fun t i wr => ∃ m K : Nat, m ≤ n ∧ K ≤ 1002000000 ∧ i = .int .i64 m ∧ t = .int .i64 (K : Int) ∧ Hid (K = k + m ∧ Betw R (R + 1) w wr ∧ wr.heap.size = w.heap.size ∧ (R < wr.heap.size ∧ (∀ j, wr.frozen? ⟨R, j, none⟩ = false) ∧ (∀ i, i < n → ∃ u, wr.cell? ⟨R, off + i, none⟩ = some u) ∧ ∀ i, i < m → wr.cell? ⟨R, off + i, none⟩ = some (.int .u32 ((marksM 4294967296 k n).getD i 0))))) (fun _ i _ => n - (intOf i).toNat)
  case atStart => exact ⟨0, k, by omega, by omega, rfl, rfl, rfl, Betw.refl _ _ _, rfl, HB.out⟩
  case round =>
    obtain ⟨m, K, hm, hK, rfl, rfl, HR⟩ := hrel
    by_cases hmn : m < n
    rotate_left
    · obtain rfl : m = n := by omega
      go_wp2
      go_ret
      obtain ⟨hKe, hb, hsz, g1, g2, g3, g4⟩ := HR.out
      exact ⟨ret_int (by rw [hKe]), hb, hsz, fun _ => ⟨off, rfl, h1, h2, g1, fun i hi => g4 i (by rw [marksM_len] at hi; exact hi), g2⟩, fun e => absurd e h0⟩
    have hmn' : (m : Int) < (n : Int) := by omega
    obtain ⟨hKe, hb, hsz, g1, g2, g3, g4⟩ := HR.out
    obtain ⟨u, hu⟩ := g3 m hmn
    have hfz := g2 (off + m)
    have hat := marksM_at 4294967296 k n m hmn
    rw [← hKe] at hat
    have HR2 : Hid (K + 1 = k + (m + 1) ∧ Betw R (R + 1) w (wr.setCell ⟨R, off + m, none⟩ (.int .u32 (K : Int))) ∧ (wr.setCell ⟨R, off + m, none⟩ (.int .u32 (K : Int))).heap.size = w.heap.size ∧ (R < (wr.setCell ⟨R, off + m, none⟩ (.int .u32 (K : Int))).heap.size ∧ (∀ j, (wr.setCell ⟨R, off + m, none⟩ (.int .u32 (K : Int))).frozen? ⟨R, j, none⟩ = false) ∧ (∀ i, i < n → ∃ u, (wr.setCell ⟨R, off + m, none⟩ (.int .u32 (K : Int))).cell? ⟨R, off + i, none⟩ = some u) ∧ ∀ i, i < m + 1 → (wr.setCell ⟨R, off + m, none⟩ (.int .u32 (K : Int))).cell? ⟨R, off + i, none⟩ = some (.int .u32 ((marksM 4294967296 k n).getD i 0)))) := by
      refine ⟨by omega, hb.setCell (p := ⟨R, off + m, none⟩) (Nat.le_refl _) (Nat.lt_succ_self _) _, by simpa using hsz, by simpa using g1, fun j => by rw [World.frozen?_setCell]; exact g2 j, fun i hi => ?_, fun i hi => ?_⟩
      · by_cases e : i = m
        · subst e; exact ⟨_, World.cell?_setCell_same _ _ _ hu⟩
        · rw [World.cell?_setCell_other _ _ _ _ (by intro c; injection c with c1 c2 c3; omega)]
          exact g3 i hi
      · by_cases e : i = m
        · subst e
          rw [World.cell?_setCell_same _ _ _ hu, hat]
          rw [Nat.mod_eq_of_lt (by omega)]
        · rw [World.cell?_setCell_other _ _ _ _ (by intro c; injection c with c1 c2 c3; omega)]
          exact g4 i (by omega)
    have hK2 : K + 1 ≤ 1002000000 := by omega
    clear hb hsz g1 g2 g3 g4 HR hKe hat
    go_wp2
    go_roundw
    case rel => exact ⟨m + 1, K + 1, by omega, hK2, by go_num, by go_num, HR2⟩
    case measure => simp [intOf]; omega
theorem run_make_bytes (n : Nat) (hn : n ≤ 1048576) (w : World) : (Instr.makeSlice 82 (.int .i64 (n : Int)) (.int .i64 (n : Int))).run Tryz.prog w = .ok (.slice (some ⟨w.heap.size, 0, none⟩) n n) (w.alloc (.cells (madeCells #[.int .u8 0] n) 5)) :=
  run_make_row' (P := Tryz.prog) 82 5 (.int .u8 0) 1 Tryz.underlying82 infoB rfl .i64 .i64 n (by omega) (by omega) w
theorem sz_bytes (a : Option Addr) (cap n L : Nat) (w : World) (hn : n ≤ 9223372036854775807) (hL : L ≤ 1048576) :
    Calls Tryz.prog 178 #[.slice a n cap, .int .i64 (L : Int)] w fun e w' => (∃ r : Int, e = .returned (.int .i64 r) ∧ (r < 0 ∨ (r = ((L - n : Nat) : Int) ∧ n ≤ L))) ∧ w' = w := by
  by_cases h : n ≤ L
  · obtain ⟨d, rfl⟩ : ∃ d, L = n + d := ⟨L - n, by omega⟩
    have hw : IntKind.i64.wrap (((n + d : Nat) : Int) - (n : Int)) = (d : Int) := by rw [show ((n + d : Nat) : Int) - (n : Int) = (d : Int) by omega, IntKind.wrap_i64]; omega
    have h0 : ¬ ((d : Int) < 0) := by omega
    go_enter Tryz.func178, Tryz.ntmps178
    go_wp2
    go_ret
    exact ⟨⟨_, rfl, by omega⟩, rfl⟩
  · have hw : IntKind.i64.wrap ((L : Int) - (n : Int)) = (L : Int) - (n : Int) := by rw [IntKind.wrap_i64]; omega
    have h0 : (L : Int) - (n : Int) < 0 := by omega
    go_enter Tryz.func178, Tryz.ntmps178
    go_wp2
    go_ret
    exact ⟨⟨_, rfl, .inl (by omega)⟩, rfl⟩
set_option maxHeartbeats 1000000 in
theorem to_bytes (a : Option Addr) (cap n : Nat) (zs : List Int) (w : World) (hs : Seg .u8 w a zs) (hl : zs.length = n) (hn : n ≤ 1048576) :
    Calls Tryz.prog 183 #[.slice a n cap] w fun e w' => e = .returned (.slice (some ⟨w.heap.size, 0, none⟩) n n) ∧ Below w.heap.size w w' ∧ Own .u8 w' w.heap.size zs := by
  have hmk := run_make_bytes n hn
  have HS : Hid _ := And.intro hs hl
  clear hs hl
  go_enter Tryz.func183, Tryz.ntmps183
  go_wp2
  go_loopw [4] (fun i wr => ∃ k : Nat, k ≤ n ∧ i = .int .i64 k ∧ Hid (Below w.heap.size w wr ∧ Own .u8 wr w.heap.size (zs.take k ++ List.replicate (n - k) 0))) (fun i _ => n - (intOf i).toNat)
  case atStart => exact ⟨0, by omega, rfl, (Below.refl _ _).alloc (Nat.le_refl _) _, by simpa using Own.made .u8 w n 5 0⟩
  case round =>
    obtain ⟨k, hk, rfl, HB⟩ := hrel
    by_cases hlt : k < n
    · have hlt' : (k : Int) < (n : Int) := by omega
      have hkl : k < zs.length := by have := HS.out.2; omega
      obtain ⟨b1, o1, rfl, hbl1, c1⟩ := Seg.at (w := w) HS.out.1 k hkl
      have hb := HB.out.1
      have ho := HB.out.2
      replace c1 := (hb.cell (p := ⟨b1, o1 + k, none⟩) hbl1).trans c1
      have hl2 : (zs.take k ++ List.replicate (n - k) (0 : Int)).length = n := by rw [← HS.out.2]; exact copy_len zs k (by omega)
      have hu := ho.cell k (by omega)
      have hf := ho.free k
      have hset := ho.set k (zs.getD k 0) (by omega)
      rw [← HS.out.2, copy_step zs k hkl, HS.out.2] at hset
      have HB3 : Hid (Below w.heap.size w (wr.setCell ⟨w.heap.size, k, none⟩ (.int .u8 (zs.getD k 0))) ∧ Own .u8 (wr.setCell ⟨w.heap.size, k, none⟩ (.int .u8 (zs.getD k 0))) w.heap.size (zs.take (k + 1) ++ List.replicate (n - (k + 1)) 0)) :=
        ⟨hb.setCell (p := ⟨w.heap.size, k, none⟩) (Nat.le_refl _) _, hset⟩
      generalize zs.getD k 0 = z at c1 HB3
      generalize (zs.take k ++ List.replicate (n - k) (0 : Int)).getD k 0 = z0 at hu
      clear hbl1 hb ho hl2 hset HB hkl
      go_wp2
      go_roundw
      case rel => exact ⟨k + 1, by omega, by go_num, HB3⟩
      case measure => simp [intOf]; omega
    · obtain rfl : k = n := by omega
      go_wp2
      go_ret
      refine ⟨rfl, HB.out.1, ?_⟩
      have := HB.out.2
      have hl := HS.out.2
      subst hl
      simpa using this
set_option maxHeartbeats 400000 in
theorem eq_bytes (a b : Option Addr) (ca cb n : Nat) (zs : List Int) (w : World) (ha : Seg .u8 w a zs) (hb : Seg .u8 w b zs) (hl : zs.length = n) (hn : n ≤ 1048576) :
    Calls Tryz.prog 41 #[.slice a n ca, .slice b n cb] w fun e w' => e = .returned (.bool true) ∧ Below w.heap.size w w' := by
  have HS : Hid _ := And.intro ha (And.intro hb hl)
  clear ha hb hl
  go_enter Tryz.func41, Tryz.ntmps41
  go_wp2
  go_loopw [5] (fun i wr => ∃ k m : Nat, k ≤ n ∧ i = .int .i64 k ∧ wr = w.drewN m) (fun i _ => n - (intOf i).toNat)
  case atStart => exact ⟨0, 0, by omega, rfl, rfl⟩
  case round =>
    obtain ⟨k, m, hk, rfl, rfl⟩ := hrel
    by_cases hlt : k < n
    · have hl : k < zs.length := by have := HS.out.2.2; omega
      obtain ⟨b1, o1, rfl, hbl1, hc1⟩ := Seg.at (w := w) HS.out.1 k hl
      obtain ⟨b2, o2, rfl, hbl2, hc2⟩ := Seg.at (w := w) HS.out.2.1 k hl
      generalize zs.getD k 0 = z at hc1 hc2
      clear hl hbl1 hbl2
      go_wp2
      go_quiet (fail)
      go_wp2
      go_roundw
      case rel => exact ⟨k + 1, _, by omega, by go_num, rfl⟩
      case measure => simp [intOf]; omega
    · go_wp2
      go_ret
      exact ⟨rfl, below_drewN (Below.refl _ _) _⟩
set_option maxHeartbeats 1000000 in
theorem mark_bytes (lo hi R cap k n : Nat) (a : Option Addr) (ws : List Int) (w : World) (ho : ON .u8 w lo hi a ws R) (hl : ws.length = n) (hn : n ≤ 1048576) (hk1 : k ≤ 1000000000) :
    Calls Tryz.prog 52 #[.slice a n cap, .int .i64 (k : Int)] w fun e w' => e = .returned (.int .i64 ((k + n : Nat) : Int)) ∧ Betw R (R + 1) w w' ∧ w'.heap.size = w.heap.size ∧ ON .u8 w' lo hi a (marksM 256 k n) R ∧ (n = 0 → w' = w) := by
  by_cases h0 : n = 0
  · subst h0
    go_enter Tryz.func52, Tryz.ntmps52
    go_wp2
    refine wp_loop_rounds 1 ?_
    rw [rounds_succ]
    go_wp2
    go_ret
    exact ⟨ret_int (by simp), Betw.refl _ _ _, rfl, ON.nil _ _ _ _ _ _, fun _ => rfl⟩
  obtain ⟨off, rfl, h1, h2, hlt, hc, hf⟩ := ho (by omega)
  have HB : Hid (R < w.heap.size ∧ (∀ j, w.frozen? ⟨R, j, none⟩ = false) ∧ (∀ i, i < n → ∃ u, w.cell? ⟨R, off + i, none⟩ = some u) ∧ ∀ i, i < 0 → w.cell? ⟨R, off + i, none⟩ = some (.int .u8 ((marksM 256 k n).getD i 0))) :=
    ⟨hlt, hf, fun i hi => ⟨_, hc i (by omega)⟩, fun i hi => absurd hi (by omega)⟩
  clear ho hc hf hl
  go_enter Tryz.func52, Tryz.ntmps52
  go_wp2
  go_loopw [1, 5] (fun t i wr => ∃ m K : Nat, m ≤ n ∧ K ≤ 1002000000 ∧ i = .int .i64 m ∧ t = .int .i64 (K : Int) ∧ Hid (K = k + m ∧ Betw R (R + 1) w wr ∧ wr.heap.size = w.heap.size ∧ (R < wr.heap.size ∧ (∀ j, wr.frozen? ⟨R, j, none⟩ = false) ∧ (∀ i, i < n → ∃ u, wr.cell? ⟨R, off + i, none⟩ = some u) ∧ ∀ i, i < m → wr.cell? ⟨R, off + i, none⟩ = some (.int .u8 ((marksM 256 k n).getD i 0))))) (fun _ i _ => n - (intOf i).toNat)
  case atStart => exact ⟨0, k, by omega, by omega, rfl, rfl, rfl, Betw.refl _ _ _, rfl, HB.out⟩
  case round =>
    obtain ⟨m, K, hm, hK, rfl, rfl, HR⟩ := hrel
    by_cases hmn : m < n
    rotate_left
    · obtain rfl : m = n := by omega
      go_wp2
      go_ret
      obtain ⟨hKe, hb, hsz, g1, g2, g3, g4⟩ := HR.out
      exact ⟨ret_int (by rw [hKe]), hb, hsz, fun _ => ⟨off, rfl, h1, h2, g1, fun i hi => g4 i (by rw [marksM_len] at hi; exact hi), g2⟩, fun e => absurd e h0⟩
    have hmn' : (m : Int) < (n : Int) := by omega
    obtain ⟨hKe, hb, hsz, g1, g2, g3, g4⟩ := HR.out
    obtain ⟨u, hu⟩ := g3 m hmn
    have hfz := g2 (off + m)
    have hat := marksM_at 256 k n m hmn
    rw [← hKe] at hat
    have HR2 : Hid (K + 1 = k + (m + 1) ∧ Betw R (R + 1) w (wr.setCell ⟨R, off + m, none⟩ (.int .u8 ((K : Int) % 256))) ∧ (wr.setCell ⟨R, off + m, none⟩ (.int .u8 ((K : Int) % 256))).heap.size = w.heap.size ∧ (R < (wr.setCell ⟨R, off + m, none⟩ (.int .u8 ((K : Int) % 256))).heap.size ∧ (∀ j, (wr.setCell ⟨R, off + m, none⟩ (.int .u8 ((K : Int) % 256))).frozen? ⟨R, j, none⟩ = false) ∧ (∀ i, i < n → ∃ u, (wr.setCell ⟨R, off + m, none⟩ (.int .u8 ((K : Int) % 256))).cell? ⟨R, off + i, none⟩ = some u) ∧ ∀ i, i < m + 1 → (wr.setCell ⟨R, off + m, none⟩ (.int .u8 ((K : Int) % 256))).cell? ⟨R, off + i, none⟩ = some (.int .u8 ((marksM 256 k n).getD i 0)))) := by
      refine ⟨by omega, hb.setCell (p := ⟨R, off + m, none⟩) (Nat.le_refl _) (Nat.lt_succ_self _) _, by simpa using hsz, by simpa using g1, fun j => by rw [World.frozen?_setCell]; exact g2 j, fun i hi => ?_, fun i hi => ?_⟩
      · by_cases e : i = m
        · subst e; exact ⟨_, World.cell?_setCell_same _ _ _ hu⟩
        · rw [World.cell?_setCell_other _ _ _ _ (by intro c; injection c with c1 c2 c3; omega)]
          exact g3 i hi
      · by_cases e : i = m
        · subst e
          rw [World.cell?_setCell_same _ _ _ hu, hat]
          simp
        · rw [World.cell?_setCell_other _ _ _ _ (by intro c; injection c with c1 c2 c3; omega)]
          exact g4 i (by omega)
    have hK2 : K + 1 ≤ 1002000000 := by omega
    clear hb hsz g1 g2 g3 g4 HR hKe hat
    go_wp2
    go_roundw
    case rel => exact ⟨m + 1, K + 1, by omega, hK2, by go_num, by go_num, HR2⟩
    case measure => simp [intOf]; omega
set_option maxHeartbeats 400000 in
theorem held_bytes (a : Option Addr) (cap n k : Nat) (w : World) (hs : Seg .u8 w a (marksM 256 k n)) (hn : n ≤ 1048576) (hk1 : k ≤ 1000000000) :
    Calls Tryz.prog 53 #[.slice a n cap, .int .i64 (k : Int)] w fun e w' => e = .returned (.int .i64 ((k + n : Nat) : Int)) ∧ Below w.heap.size w w' := by
  have HS : Hid _ := hs
  clear hs
  go_enter Tryz.func53, Tryz.ntmps53
  go_wp2
  go_loopw [1, 5] (fun t i wr => ∃ m K d : Nat, m ≤ n ∧ K ≤ 1002000000 ∧ i = .int .i64 m ∧ t = .int .i64 (K : Int) ∧ wr = w.drewN d ∧ Hid (K = k + m)) (fun _ i _ => n - (intOf i).toNat)
  case atStart => exact ⟨0, k, 0, by omega, by omega, rfl, rfl, rfl, rfl⟩
  case round =>
    obtain ⟨m, K, dd, hm, hK, rfl, rfl, rfl, HK⟩ := hrel
    by_cases hlt : m < n
    · have hlt' : (m : Int) < (n : Int) := by omega
      obtain ⟨b1, o1, rfl, hbl1, hcl⟩ := Seg.at (w := w) HS.out m (by rw [marksM_len]; exact hlt)
      rw [marksM_at 256 k n m hlt, ← HK.out] at hcl
      have hcl2 : w.cell? ⟨b1, o1 + m, none⟩ = some (.int .u8 ((K : Int) % 256)) := by rw [hcl]; simp
      have HK2 : Hid (K + 1 = k + (m + 1)) := by have := HK.out; show _ = _; omega
      have hK2 : K + 1 ≤ 1002000000 := by have := HK.out; omega
      clear hbl1 hcl
      go_wp2
      go_roundw
      case rel => exact ⟨m + 1, K + 1, _, by omega, hK2, by go_num, by go_num, rfl, HK2⟩
      case measure => simp [intOf]; omega
    · obtain rfl : m = n := by omega
      go_wp2
      go_ret
      exact ⟨ret_int (by rw [HK.out]), below_drewN (Below.refl _ _) _⟩
end Go.Proofs.YtdmlgnmklnaehaaGreatDoor
