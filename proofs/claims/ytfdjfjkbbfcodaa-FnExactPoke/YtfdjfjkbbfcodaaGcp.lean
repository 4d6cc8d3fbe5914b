
/-
  A guest's copy, by the program: a guest of the call's own that reads as the one that came in. Conditions: registers, rows and bytes are at most 1048576 together.
-/
import Derived.Test.YtfdjfjkbbfcodaaBas
import Derived.Test.YtfdjfjkbbfcodaaProg
import Derived.Test.YtfdjfjkbbfcodaaGst
import Derived.Test.YtfdjfjkbbfcodaaBap
namespace Go.Proofs.Ytfdjfjkbbfcodaa
open Go.ChangeShapes Go.WideShapes Go.ChangeAt Go.RowKit Go.Deep
set_option linter.unusedVariables false

theorem Bk.low {w w' : World} {b B : Nat} {cs : Array Value} (h : Bk w b cs) (hb : Below B w w') (hlt : b < B) : Bk w' b cs :=
  ⟨Nat.lt_of_lt_of_le h.lt hb.size, fun i v e => (World.cell?_of_block (a := ⟨b, i, none⟩) (hb.block b hlt)).trans (h.cell i v e), fun i => (World.frozen?_of_block (a := ⟨b, i, none⟩) (hb.block b hlt)).trans (h.free i)⟩
/-- What a copy tells. -/
def CopyP (X : World) (pc : Int) (rl n : Nat) (rs : List Int) (D : Nat → List Int) (e : Ending) (w' : World) : Prop :=
  ∃ ra' ma' rc' mc' m, e = .returned (gst ra' rl rc' pc ma' n mc') ∧ Below X.heap.size X w' ∧ OGst w' X.heap.size m w'.heap.size ra' ma' rs n D ∧ X.heap.size ≤ m ∧ m ≤ w'.heap.size
/-- What is known in the loop of a copy. -/
structure CL (w wr : World) (B n k : Nat) (rg : Nat) (rl rc : Nat) (pc : Int) (ma : Option Addr) (mc : Nat) (rs : List Int) (D : Nat → List Int) (m : Nat) : Prop where
  bel : Below w.heap.size w wr
  b0 : Bk wr w.heap.size #[.slice (some ⟨rg, 0, none⟩) rl rc, .int .u32 pc, .slice ma n mc]
  b1 : Bk wr (w.heap.size + 1) #[.slice none 0 0, .int .u32 0, .slice none 0 0]
  low : w.heap.size + 1 < B
  regs : ON .u32 wr (w.heap.size + 1 + 1) B (some ⟨rg, 0, none⟩) rs rg
  rows : Bsb wr B m B n k D
theorem CL.below {w wr w' : World} {B n k rg rl rc : Nat} {pc : Int} {ma : Option Addr} {mc : Nat} {rs : List Int} {D : Nat → List Int} {m : Nat} (h : CL w wr B n k rg rl rc pc ma mc rs D m) (hb : Below wr.heap.size wr w') : CL w w' B n k rg rl rc pc ma mc rs D m :=
  ⟨h.bel.trans (hb.mono h.bel.size), h.b0.below hb, h.b1.below hb, h.low, h.regs.below hb, h.rows.below hb⟩
theorem CL.put {w wr w5 : World} {B n k rg rl rc : Nat} {pc : Int} {ma : Option Addr} {mc : Nat} {rs : List Int} {D : Nat → List Int} {m : Nat} (h : CL w wr B n k rg rl rc pc ma mc rs D m) (hk : k < n) (hb : Below wr.heap.size wr w5) (g cap : Nat) (hon : ON .u8 w5 wr.heap.size w5.heap.size (some ⟨g, 0, none⟩) (D k) g) (hc : (D k).length ≤ cap) :
    CL w (w5.setCell ⟨B, k, none⟩ (.slice (some ⟨g, 0, none⟩) (D k).length cap)) B n (k + 1) rg rl rc pc ma mc rs D w5.heap.size := by
  have h5 := h.below hb
  have hlow := h.low
  have hm := h.rows.mle
  have hBm := h.rows.lt
  have hbt : Betw B (B + 1) w5 (w5.setCell ⟨B, k, none⟩ (.slice (some ⟨g, 0, none⟩) (D k).length cap)) := (Betw.refl _ _ _).setCell (p := ⟨B, k, none⟩) (Nat.le_refl _) (Nat.lt_succ_self _) _
  refine ⟨h5.bel.trans (hbt.below (by omega) h5.bel.size), h5.b0.other _ _ _ (by omega), h5.b1.other _ _ _ (by omega), hlow, h5.regs.betw hbt (fun h0 => by have := h5.regs.range h0; omega), ?_⟩
  exact h5.rows.put hk (some ⟨g, 0, none⟩) cap g w5.heap.size (fun h0 => by have := hon.range h0; omega) (hon.wide (by omega) (Nat.le_refl _)) hc (Nat.le_trans hm hb.size) (Nat.le_refl _)
theorem copy_facts {w w0 w1 : World} {cs cs' : Array Value} {g : Nat} {rs : List Int} (h0 : Bk w0 w.heap.size cs) (h1 : Bk w0 (w.heap.size + 1) cs') (hb : Below w.heap.size w w0) (hb1 : Below (w.heap.size + 1 + 1) w0 w1) (hon : ON .u32 w1 (w.heap.size + 1 + 1) w1.heap.size (some ⟨g, 0, none⟩) rs g) (hz : w.heap.size + 1 + 1 < w0.heap.size) :
    Bk w1 w.heap.size cs ∧ Bk w1 (w.heap.size + 1) cs' ∧ Below w.heap.size w w1 ∧ ON .u32 w1 (w.heap.size + 1 + 1) w1.heap.size (some ⟨g, 0, none⟩) rs g ∧ w.heap.size + 1 + 1 < w1.heap.size :=
  ⟨h0.low hb1 (by omega), h1.low hb1 (by omega), hb.trans (hb1.mono (by omega)), hon, Nat.lt_of_lt_of_le hz hb1.size⟩
theorem CL.start {w w1 : World} {ra ma : Option Addr} {rl0 rc0 n mc g : Nat} {pc : Int} {rs : List Int} {D : Nat → List Int} (h0 : Bk w1 w.heap.size #[.slice ra rl0 rc0, .int .u32 pc, .slice ma n mc]) (h1 : Bk w1 (w.heap.size + 1) #[.slice none 0 0, .int .u32 0, .slice none 0 0]) (hb : Below w.heap.size w w1) (hon : ON .u32 w1 (w.heap.size + 1 + 1) w1.heap.size (some ⟨g, 0, none⟩) rs g) (hz : w.heap.size + 1 + 1 < w1.heap.size) (rl rc : Nat) :
    CL w ((w1.setCell ⟨w.heap.size, 0, none⟩ (.slice (some ⟨g, 0, none⟩) rl rc)).alloc (.cells (madeCells #[.slice none 0 0] n) 55)) w1.heap.size n 0 g rl rc pc ma mc rs D (w1.heap.size + 1) := by
  have hbt : Betw w.heap.size (w.heap.size + 1) w1 (w1.setCell ⟨w.heap.size, 0, none⟩ (.slice (some ⟨g, 0, none⟩) rl rc)) := (Betw.refl _ _ _).setCell (p := ⟨w.heap.size, 0, none⟩) (Nat.le_refl _) (Nat.lt_succ_self _) _
  have hsz : (w1.setCell ⟨w.heap.size, 0, none⟩ (.slice (some ⟨g, 0, none⟩) rl rc)).heap.size = w1.heap.size := by simp
  have hal : Below (w1.setCell ⟨w.heap.size, 0, none⟩ (.slice (some ⟨g, 0, none⟩) rl rc)).heap.size (w1.setCell ⟨w.heap.size, 0, none⟩ (.slice (some ⟨g, 0, none⟩) rl rc)) ((w1.setCell ⟨w.heap.size, 0, none⟩ (.slice (some ⟨g, 0, none⟩) rl rc)).alloc (.cells (madeCells #[.slice none 0 0] n) 55)) := (Below.refl _ _).alloc (Nat.le_refl _) _
  have hbs := hb.trans (hbt.below (Nat.le_refl _) hb.size)
  have hmd := Bsb.made (w1.setCell ⟨w.heap.size, 0, none⟩ (.slice (some ⟨g, 0, none⟩) rl rc)) n 55 D
  rw [hsz] at hmd
  exact ⟨hbs.trans (hal.mono hbs.size), (h0.set 0 _ (by simp) rfl).below hal, (h1.other _ _ _ (by omega)).below hal, by omega, (hon.betw hbt (fun h0 => by have := hon.range h0; omega)).below hal, hmd⟩
set_option maxHeartbeats 4000000 in
theorem impl_copied (pc : Int) (ra ma : Option Addr) (rl rc n mc : Nat) (rs : List Int) (D : Nat → List Int) (w : World) (hs : XGSeg w ra ma rs n D) (hl : rs.length = rl) (hr : rl ≤ 1048576) (hn : n ≤ 1048576) (ht : btot D n ≤ 1048576) :
    Calls Try.prog 76 #[gst ra rl rc pc ma n mc] w (CopyP w pc rl n rs D) := by
  have HS : Hid (XGSeg w ra ma rs n D ∧ rs.length = rl ∧ btot D n ≤ 1048576) := ⟨hs, hl, ht⟩
  clear hs hl ht
  have hmk := run_make_rows n hn
  have HB : Hid (Below w.heap.size w ((w.alloc (.cells #[.slice ra rl rc, .int .u32 pc, .slice ma n mc] 42)).alloc (.cells #[.slice none 0 0, .int .u32 0, .slice none 0 0] 42))) := ((Below.refl _ w).alloc (Nat.le_refl _) _).alloc (by simp) _
  have B0 : Bk ((w.alloc (.cells #[.slice ra rl rc, .int .u32 pc, .slice ma n mc] 42)).alloc (.cells #[.slice none 0 0, .int .u32 0, .slice none 0 0] 42)) w.heap.size #[.slice ra rl rc, .int .u32 pc, .slice ma n mc] := (Bk.new w _ 42 w.heap.size rfl).alloc _
  have B1 : Bk ((w.alloc (.cells #[.slice ra rl rc, .int .u32 pc, .slice ma n mc] 42)).alloc (.cells #[.slice none 0 0, .int .u32 0, .slice none 0 0] 42)) (w.heap.size + 1) #[.slice none 0 0, .int .u32 0, .slice none 0 0] := Bk.new _ _ 42 (w.heap.size + 1) (by simp)
  have hal : Below ((w.alloc (.cells #[.slice ra rl rc, .int .u32 pc, .slice ma n mc] 42)).alloc (.cells #[.slice none 0 0, .int .u32 0, .slice none 0 0] 42)).heap.size ((w.alloc (.cells #[.slice ra rl rc, .int .u32 pc, .slice ma n mc] 42)).alloc (.cells #[.slice none 0 0, .int .u32 0, .slice none 0 0] 42)) (((w.alloc (.cells #[.slice ra rl rc, .int .u32 pc, .slice ma n mc] 42)).alloc (.cells #[.slice none 0 0, .int .u32 0, .slice none 0 0] 42)).alloc (.cells #[] 31)) := (Below.refl _ _).alloc (Nat.le_refl _) _
  have HON : Hid _ := own_empty ((w.alloc (.cells #[.slice ra rl rc, .int .u32 pc, .slice ma n mc] 42)).alloc (.cells #[.slice none 0 0, .int .u32 0, .slice none 0 0] 42)) 31 (w.heap.size + 1 + 1) (by simp)
  have HSG : Hid (Seg .u32 (((w.alloc (.cells #[.slice ra rl rc, .int .u32 pc, .slice ma n mc] 42)).alloc (.cells #[.slice none 0 0, .int .u32 0, .slice none 0 0] 42)).alloc (.cells #[] 31)) ra rs) := HS.out.1.1.below (HB.out.trans (hal.mono HB.out.size))
  have HLE : Hid (w.heap.size + 1 + 1 ≤ (((w.alloc (.cells #[.slice ra rl rc, .int .u32 pc, .slice ma n mc] 42)).alloc (.cells #[.slice none 0 0, .int .u32 0, .slice none 0 0] 42)).alloc (.cells #[] 31)).heap.size) := by show _ ≤ _; simp
  have HBB : Hid (Bk (((w.alloc (.cells #[.slice ra rl rc, .int .u32 pc, .slice ma n mc] 42)).alloc (.cells #[.slice none 0 0, .int .u32 0, .slice none 0 0] 42)).alloc (.cells #[] 31)) w.heap.size #[.slice ra rl rc, .int .u32 pc, .slice ma n mc] ∧ Bk (((w.alloc (.cells #[.slice ra rl rc, .int .u32 pc, .slice ma n mc] 42)).alloc (.cells #[.slice none 0 0, .int .u32 0, .slice none 0 0] 42)).alloc (.cells #[] 31)) (w.heap.size + 1) #[.slice none 0 0, .int .u32 0, .slice none 0 0] ∧ Below w.heap.size w (((w.alloc (.cells #[.slice ra rl rc, .int .u32 pc, .slice ma n mc] 42)).alloc (.cells #[.slice none 0 0, .int .u32 0, .slice none 0 0] 42)).alloc (.cells #[] 31))) := ⟨B0.below hal, B1.below hal, HB.out.trans (hal.mono HB.out.size)⟩
  clear B0 B1 hal HB
  go_enter Try.func76, Try.ntmps76
  go_wp2_with (at_builtin; (refine wpList_copy_nums numU _ rfl (.tmp 6) (.tmp 8) 36 rfl Try.underlying36 (w.heap.size + 1 + 1) rs ra rl rc rfl rfl HS.out.2.1 HON.out HLE.out HSG.out hr ?_; intro g1 cp1 w1 hb1 hon1 hc1; have HY : Hid (Bk w1 w.heap.size _ ∧ Bk w1 (w.heap.size + 1) _ ∧ Below w.heap.size w w1 ∧ ON .u32 w1 (w.heap.size + 1 + 1) w1.heap.size (some ⟨g1, 0, none⟩) rs g1 ∧ w.heap.size + 1 + 1 < w1.heap.size) := copy_facts HBB.out.1 HBB.out.2.1 HBB.out.2.2 hb1 hon1 (by simp); clear hb1 hon1 hc1; have y0 := HY.out.1.cell 0 _ rfl; have yf := HY.out.1.free; have y2 := (HY.out.1.set 0 (.slice (some ⟨g1, 0, none⟩) rl cp1) (by simp) rfl).cell 2 _ rfl; have y3 := cell_alloc_l (.cells (madeCells #[.slice none 0 0] n) 55) y2))
  have HI : Hid (CL w ((w1.setCell ⟨w.heap.size, 0, none⟩ (.slice (some ⟨g1, 0, none⟩) rl cp1)).alloc (.cells (madeCells #[.slice none 0 0] n) 55)) w1.heap.size n 0 g1 rl cp1 pc ma mc rs D (w1.heap.size + 1)) := CL.start HY.out.1 HY.out.2.1 HY.out.2.2.1 HY.out.2.2.2.1 HY.out.2.2.2.2 rl cp1
  clear y0 yf y2 y3 HY HBB HSG HLE HON
  obtain ⟨W1, HW1⟩ : ∃ W1, Hid (W1 = (w1.setCell ⟨w.heap.size, 0, none⟩ (.slice (some ⟨g1, 0, none⟩) rl cp1)).alloc (.cells (madeCells #[.slice none 0 0] n) 55)) := ⟨_, rfl⟩
  rw [← HW1.out] at HI ⊢
  obtain ⟨B, HBe⟩ : ∃ B, Hid (w1.heap.size = B) := ⟨_, rfl⟩
  rw [HBe.out] at HI ⊢
  go_loopw [18] (fun i wr => ∃ k : Nat, k ≤ n ∧ i = .int .i64 k ∧ Hid (∃ m, CL w wr B n k g1 rl cp1 pc ma mc rs D m)) (fun i _ => n - (intOf i).toNat)
  case atStart => exact ⟨0, by omega, rfl, _, HI.out⟩
  case round =>
    obtain ⟨k, hk, rfl, HU⟩ := hrel
    clear HI HW1 HBe
    obtain ⟨m, hcl⟩ := HU.out
    by_cases hkn : k < n
    · have hkn' : (k : Int) < (n : Int) := by omega
      obtain ⟨b1, o1, a1, c1, rfl, hbl1, e1, s1⟩ := BSeg.at HS.out.1.2 k hkn
      replace e1 := (hcl.bel.cell (p := ⟨b1, o1 + k, none⟩) hbl1).trans e1
      have hlen : (D k).length ≤ 1048576 := Nat.le_trans (btot_row D hkn) HS.out.2.2
      have hal : Below wr.heap.size wr (wr.alloc (.cells #[] 5)) := (Below.refl _ _).alloc (Nat.le_refl _) _
      have HAL : Hid _ := hal
      have HSG : Hid (Seg .u8 (wr.alloc (.cells #[] 5)) a1 (D k)) := s1.below (hcl.bel.trans (hal.mono hcl.bel.size))
      have HON : Hid _ := own_empty wr 5 wr.heap.size rfl
      have HLE : Hid (wr.heap.size ≤ (wr.alloc (.cells #[] 5)).heap.size) := by show _ ≤ _; simp
      have HCL : Hid (CL w wr B n k g1 rl cp1 pc (some ⟨b1, o1, none⟩) mc rs D m) := hcl
      obtain ⟨len, Hlen⟩ : ∃ len, Hid ((D k).length = len) := ⟨_, rfl⟩
      rw [Hlen.out] at e1 hlen
      clear hcl HU s1 hbl1 hal
      go_wp2_with (at_builtin; (refine wpList_copy_nums numB _ rfl (.tmp 25) (.tmp 26) 55 rfl Try.underlying55 wr.heap.size (D k) a1 len c1 rfl rfl Hlen.out HON.out HLE.out HSG.out hlen ?_; intro g5 cp5 w5 hb5 hon5 hc5; have hbx := HAL.out.trans (hb5.mono (Nat.le_refl _)); have HZ : Hid (CL w (w5.setCell ⟨B, k, none⟩ (.slice (some ⟨g5, 0, none⟩) len cp5)) B n (k + 1) g1 rl cp1 pc (some ⟨b1, o1, none⟩) mc rs D w5.heap.size) := (by rw [← Hlen.out]; exact CL.put HCL.out hkn hbx g5 cp5 hon5 (by rw [Hlen.out]; exact hc5)); obtain ⟨u9, bu⟩ := (HCL.out.below hbx).rows.room k hkn; have bf := (HCL.out.below hbx).rows.free; clear hbx hb5 hon5 hc5))
      go_roundw
      case rel => exact ⟨k + 1, by omega, by go_num, _, HZ.out⟩
      case measure => simp [intOf]; omega
    · obtain rfl : k = n := by omega
      clear hkn HU
      have B0 := hcl.b0
      have F0 := B0.set 2 (.slice (some ⟨B, 0, none⟩) k k) (by simp) rfl
      have hlow := hcl.low
      have F1 := hcl.b1.other w.heap.size 2 (.slice (some ⟨B, 0, none⟩) k k) (by omega)
      have G0 := F1.set 0 (.slice (some ⟨g1, 0, none⟩) rl cp1) (by simp) rfl
      have G1 := G0.set 1 (.int .u32 pc) (by simp) rfl
      have G2 := G1.set 2 (.slice (some ⟨B, 0, none⟩) k k) (by simp) rfl
      have q2 := B0.cell 2 _ rfl
      have f0 := B0.free
      have f1 := hcl.b1.free
      have r0 := F0.cell 0 _ rfl
      have r1 := F0.cell 1 _ rfl
      have r2 := F0.cell 2 _ rfl
      have t0 := F1.cell 0 _ rfl
      have t1 := G0.cell 1 _ rfl
      have t2 := G1.cell 2 _ rfl
      have n0 := G2.cell 0 _ rfl
      have n1 := G2.cell 1 _ rfl
      have n2 := G2.cell 2 _ rfl
      have HCL : Hid (CL w wr B k k g1 rl cp1 pc ma mc rs D m) := hcl
      clear B0 F0 F1 G0 G1 G2 hcl
      go_wp2
      refine bodyPost_ret (v := gst (some ⟨g1, 0, none⟩) rl cp1 pc (some ⟨B, 0, none⟩) k k) (by simp [results, Try.results76, go_sem, n0, n1, n2]) rfl ⟨_, _, _, _, B, rfl, ?_, ?_, ?_, ?_⟩
      · exact (((HCL.out.bel.setCell (p := ⟨w.heap.size, 2, none⟩) (by simp) _).setCell (p := ⟨w.heap.size + 1, 0, none⟩) (by simp) _).setCell (p := ⟨w.heap.size + 1, 1, none⟩) (by simp) _).setCell (p := ⟨w.heap.size + 1, 2, none⟩) (by simp) _
      · have hbt := ((((Betw.refl w.heap.size (w.heap.size + 1 + 1) wr).setCell (p := ⟨w.heap.size, 2, none⟩) (by simp) (by simp; omega) (.slice (some ⟨B, 0, none⟩) k k)).setCell (p := ⟨w.heap.size + 1, 0, none⟩) (by simp) (by simp) (.slice (some ⟨g1, 0, none⟩) rl cp1)).setCell (p := ⟨w.heap.size + 1, 1, none⟩) (by simp) (by simp) (.int .u32 pc)).setCell (p := ⟨w.heap.size + 1, 2, none⟩) (by simp) (by simp) (.slice (some ⟨B, 0, none⟩) k k)
        have hm := HCL.out.rows.mle
        have hreg : ON .u32 wr (w.heap.size + 1 + 1) B (some ⟨g1, 0, none⟩) rs g1 := HCL.out.regs
        exact ⟨⟨g1, (hreg.betw hbt (fun h0 => .inr (hreg.range h0).1)).wide (by omega) (Nat.le_refl _)⟩, (HCL.out.rows.rows'.betw hbt (.inr (by omega))).wide (Nat.le_refl _) (by simpa using hm)⟩
      · omega
      · have := HCL.out.rows.lt; have := HCL.out.rows.mle; simp; omega
end Go.Proofs.Ytfdjfjkbbfcodaa
