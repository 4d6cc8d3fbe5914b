
/-
  What the program stores into a guest's memory, or what is raised against it. Conditions: the guest is right for its windows.
-/
import Derived.Test.YtanffdedignegaaBas
import Derived.Test.YtanffdedignegaaProg
import Derived.Test.YtanffdedignegaaPut
namespace Go.Proofs.Ytanffdedignegaa
open Go.ChangeShapes Go.WideShapes Go.ChangeAt Go.RowKit Go.Deep
set_option linter.unusedVariables false

/-- The first 'S' bytes of a word, as cells. -/
def byc (x : Int) (S : Nat) : List Value := ((Wd.bytes x).take S).map (Value.int .u8)
theorem byc_len (x : Int) (S : Nat) (hS : S ≤ 4) : (byc x S).length = S := by simp [byc, Wd.bytes]; omega
theorem byc_one (x : Int) (S : Nat) : ∀ v ∈ byc x S, v.oneCell' = true := by
  intro v hv
  obtain ⟨z, _, rfl⟩ := List.mem_map.1 hv
  rfl
theorem byc_src {w : World} {B : Nat} {x : Int} (h : Own .u8 w B (Wd.bytes x)) (S : Nat) : ∀ j v, (byc x S)[j]? = some v → w.cell? ((⟨B, 0, none⟩ : Addr).add j) = some v := fun j v e => by
  rw [add_plain, Nat.zero_add]
  rw [byc, List.getElem?_map] at e
  obtain ⟨z, hz, rfl⟩ := Option.map_eq_some_iff.1 e
  rw [List.getElem?_take] at hz
  split at hz
  · have hj : j < (Wd.bytes x).length := by
      rcases Nat.lt_or_ge j (Wd.bytes x).length with g | g
      · exact g
      · rw [List.getElem?_eq_none g] at hz; cases hz
    rw [h.cell j hj]
    simp [List.getD, hz]
  · cases hz
theorem on_copy {w : World} {lo hi bi oi : Nat} {row : List Int} {x : Int} (h : ON .u8 w lo hi (some ⟨bi, oi, none⟩) row bi) (fr S : Nat) (hS : S = 1 ∨ S = 4) (hin : fr + S ≤ row.length) :
    Betw bi (bi + 1) w (w.setCells bi (oi + fr) (byc x S)) ∧ ON .u8 (w.setCells bi (oi + fr) (byc x S)) lo hi (some ⟨bi, oi, none⟩) (putRow row fr S x) bi := by
  rcases hS with rfl | rfl
  · obtain ⟨_, _, h3, h4⟩ := h.put' fr (by omega) (x % 256)
    exact ⟨h3, h4⟩
  · obtain ⟨_, _, h3, h4⟩ := h.put' fr (by omega) (x % 256)
    obtain ⟨_, _, k3, k4⟩ := h4.put' (fr + 1) (by simp; omega) (x / 256 % 256)
    obtain ⟨_, _, l3, l4⟩ := k4.put' (fr + 2) (by simp; omega) (x / 65536 % 256)
    obtain ⟨_, _, m3, m4⟩ := l4.put' (fr + 3) (by simp; omega) (x / 16777216)
    exact ⟨((h3.trans k3).trans l3).trans m3, m4⟩
set_option maxRecDepth 20000 in
set_option maxHeartbeats 4000000 in
theorem store_ok (a ra : Option Addr) (cap wn rl rc n mc K fr S b2 o2 bi oi len ci lo hi : Nat) (pc bs x : Int) (row : List Int) (w : World) (hx0 : 0 ≤ x) (hx1 : x ≤ 4294967295)
    (hrc : ∀ X, Below w.heap.size w X → Calls Try.prog 38 #[gst ra rl rc pc (some ⟨b2, o2, none⟩) n mc, .slice a wn cap, .int .u32 (bs + (fr : Int)), .int .i64 (S : Int), .int .i64 2] X fun e w' => e = .returned (.slice (some ⟨bi, oi + fr, none⟩) S (ci - fr)) ∧ Below X.heap.size X w')
    (hon : ON .u8 w lo hi (some ⟨bi, oi, none⟩) row bi) (hrl : row.length = len) (hS : S = 1 ∨ S = 4) (hin : fr + S ≤ len) :
    Calls Try.prog 23 #[gst ra rl rc pc (some ⟨b2, o2, none⟩) n mc, .slice a wn cap, .int .u32 (bs + (fr : Int)), .int .i64 (S : Int), .int .u32 x] w fun e w' => e = .returned (.tuple #[]) ∧ Betw bi (bi + 1) w w' ∧ ON .u8 w' lo hi (some ⟨bi, oi, none⟩) (putRow row fr S x) bi := by
  have hbw : Below w.heap.size w (w.alloc (.cells #[.slice ra rl rc, .int .u32 pc, .slice (some ⟨b2, o2, none⟩) n mc] 29)) := (Below.refl _ w).alloc (Nat.le_refl _) _
  have B0 := Bk.new w #[.slice ra rl rc, .int .u32 pc, .slice (some ⟨b2, o2, none⟩) n mc] 29 w.heap.size rfl
  have HRC : Hid _ := hrc _ hbw
  have HB : Hid (Below w.heap.size w _) := hbw
  have HO : Hid (ON .u8 w lo hi (some ⟨bi, oi, none⟩) row bi ∧ row.length = len ∧ (S = 1 ∨ S = 4)) := ⟨hon, hrl, hS⟩
  have c0 := B0.cell 0 _ rfl
  have c1 := B0.cell 1 _ rfl
  have c2 := B0.cell 2 _ rfl
  clear hrc hon hrl hbw B0 hS
  go_enter Try.func23, Try.ntmps23
  go_wp2_with fail
  refine Calls.mono HRC.out ?_
  rintro u w1 ⟨rfl, hb1⟩
  have HB1 : Hid (Below w.heap.size w w1) := HB.out.trans (hb1.mono HB.out.size)
  clear hb1 c0 c1 c2 HRC HB
  go_wp2_with fail
  refine Calls.mono (impl_bytes x _ hx0 hx1) ?_
  rintro u w2 ⟨rfl, hb2, hsz2, how2⟩
  have hb2w : Below w.heap.size w w2 := HB1.out.trans (hb2.mono HB1.out.size)
  have hon2 := HO.out.1.below hb2w
  have hS4 : S ≤ 4 := by have := HO.out.2.2; omega
  have HC : Hid _ := on_copy (x := x) hon2 fr S HO.out.2.2 (by rw [HO.out.2.1]; exact hin)
  have HBT : Hid (Betw bi (bi + 1) w w2) := Below.betw hb2w
  have HW2 : Hid (Own .u8 w2 w1.heap.size (Wd.bytes x)) := how2
  have HRM : Hid (∀ j, j < (byc x S).length → (w2.cell? ⟨bi, oi + fr + j, none⟩).isSome = true) := fun j hj => by
    rw [byc_len x S hS4] at hj
    obtain ⟨⟨u, hu⟩, _⟩ := hon2.put' (fr + j) (by rw [HO.out.2.1]; omega) 0
    rw [Nat.add_assoc, hu]; rfl
  have HFZ : Hid (∀ j, j < (byc x S).length → w2.frozen? ⟨bi, oi + fr + j, none⟩ = false) := fun j hj => by
    rw [byc_len x S hS4] at hj
    obtain ⟨_, hz, _⟩ := hon2.put' (fr + j) (by rw [HO.out.2.1]; omega) 0
    rw [Nat.add_assoc, hz]
  have HLN : Hid ((byc x S).length = Nat.min 4 S) := by show _ = _; rw [byc_len x S hS4]; exact (Nat.min_eq_right hS4).symm
  clear hb2 hsz2 how2 hon2 hb2w
  have hcp := run_copy_cells (P := Try.prog) w2 22 22 3 5 bi (oi + fr) S (ci - fr) ⟨w1.heap.size, 0, none⟩ 4 4 (byc x S) Try.underlying22 infoB1 HLN.out (byc_src HW2.out S) HRM.out HFZ.out (byc_one x S)
  obtain ⟨W9, HW9⟩ : ∃ W9, Hid (w2.setCells bi (oi + fr) (byc x S) = W9) := ⟨_, rfl⟩
  rw [HW9.out] at hcp HC
  go_wp2
  go_end0
  exact ⟨rfl, HBT.out.trans HC.out.1, HC.out.2⟩
set_option maxHeartbeats 4000000 in
theorem store_bad (a ra ma : Option Addr) (cap wn rl rc n mc : Nat) (pc ad size x r : Int) (w : World)
    (hft : ∀ X, Below w.heap.size w X → Calls Try.prog 9 #[.slice a wn cap, .int .u32 ad, .int .i64 size, .int .i64 2] X fun e w' => e = .returned (.int .i64 r) ∧ Below X.heap.size X w') (hr : (r == 0) = false) :
    Calls Try.prog 23 #[gst ra rl rc pc ma n mc, .slice a wn cap, .int .u32 ad, .int .i64 size, .int .u32 x] w fun e w' => e = .panicked [fltP r] ∧ Below w.heap.size w w' := by
  have hbw : Below w.heap.size w (w.alloc (.cells #[.slice ra rl rc, .int .u32 pc, .slice ma n mc] 29)) := (Below.refl _ w).alloc (Nat.le_refl _) _
  have B0 := Bk.new w #[.slice ra rl rc, .int .u32 pc, .slice ma n mc] 29 w.heap.size rfl
  have HRC : Hid _ := reach_bad a ra ma cap wn rl rc n mc pc ad size 2 r _ (fun X hX => hft X (hbw.trans (hX.mono hbw.size))) hr
  have HB : Hid (Below w.heap.size w _) := hbw
  have c0 := B0.cell 0 _ rfl
  have c1 := B0.cell 1 _ rfl
  have c2 := B0.cell 2 _ rfl
  clear hft hbw B0
  go_enter Try.func23, Try.ntmps23
  go_wp2_with fail
  refine Calls.mono HRC.out ?_
  rintro u w1 ⟨rfl, hb1⟩
  have HB1 : Hid (Below w.heap.size w w1) := HB.out.trans (hb1.mono HB.out.size)
  clear hb1
  go_wp2
  exact ⟨rfl, rfl, HB1.out⟩
/-- What the program's writing keeps in variables of its own: the guest, the windows, the access, the word. -/
structure PV (w : World) (ga gw : Nat) (ra ma : Option Addr) (rl rc n mc : Nat) (pc : Int) (a : Option Addr) (wn cap : Nat) (ad size x : Int) : Prop where
  b0 : Bk w ga #[.slice ra rl rc, .int .u32 pc, .slice ma n mc]
  b1 : Bk w gw #[.slice a wn cap]
  b2 : Bk w (gw + 2) #[.int .u32 ad]
  b3 : Bk w (gw + 3) #[.int .i64 size]
  b4 : Bk w (gw + 4) #[.int .u32 x]
set_option maxHeartbeats 2000000 in
theorem poke1 (ga gw : Nat) (ra ma a : Option Addr) (rl rc n mc wn cap : Nat) (pc ad size x : Int) (w : World) (R : Ending → World → Prop) (h : PV w ga gw ra ma rl rc n mc pc a wn cap ad size x)
    (hR : ∀ v w', R (.returned v) w' → R (.returned (.tuple #[])) w') (hout : ∀ w', ¬ R .outgrown w')
    (hst : Calls Try.prog 23 #[gst ra rl rc pc ma n mc, .slice a wn cap, .int .u32 ad, .int .i64 size, .int .u32 x] w R) :
    Calls Try.prog 22 #[.pointer (some ⟨ga, 0, none⟩), .pointer (some ⟨gw, 0, none⟩), .pointer (some ⟨gw + 2, 0, none⟩), .pointer (some ⟨gw + 3, 0, none⟩), .pointer (some ⟨gw + 4, 0, none⟩)] w R := by
  have HST : Hid _ := hst
  have c0 := h.b0.cell 0 _ rfl
  have c1 := h.b0.cell 1 _ rfl
  have c2 := h.b0.cell 2 _ rfl
  have d1 := h.b1.cell 0 _ rfl
  have d2 := h.b2.cell 0 _ rfl
  have d3 := h.b3.cell 0 _ rfl
  have d4 := h.b4.cell 0 _ rfl
  have HR : Hid (∀ v w', R (.returned v) w' → R (.returned (.tuple #[])) w') := hR
  have HO : Hid (∀ w', ¬ R .outgrown w') := hout
  clear hst h hR hout
  go_enter Try.func22, Try.ntmps22
  go_wp2_with fail
  refine Calls.mono HST.out ?_
  intro e w2 he
  have HE : Hid (R e w2) := he
  clear he
  cases e with
  | returned v =>
    go_wp2
    go_end0
    exact HR.out _ _ HE.out
  | panicked c =>
    go_wp2
    exact ⟨rfl, HE.out⟩
  | outgrown => exact absurd HE.out (HO.out _)
end Go.Proofs.Ytanffdedignegaa
