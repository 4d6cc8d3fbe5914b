
/-
  The bytes that an access of the program reaches, or what is raised against it. Conditions: the guest is right for its windows.
-/
import Derived.Test.YtanffdedignegaaBas
import Derived.Test.YtanffdedignegaaProg
import Derived.Test.YtanffdedignegaaGgt
import Derived.Test.YtanffdedignegaaCau
import Derived.Deep.RegionHeldLaw
import Derived.Deep.RegionHeld3
namespace Go.Proofs.Ytanffdedignegaa
open Go.ChangeShapes Go.WideShapes Go.ChangeAt Go.RowKit Go.Deep
set_option linter.unusedVariables false

theorem ret_slice {b o o' n n' c c' : Nat} (h1 : o = o') (h2 : n = n') (h3 : c = c') : Ending.returned (.slice (some ⟨b, o, none⟩) n c) = .returned (.slice (some ⟨b, o', none⟩) n' c') := by rw [h1, h2, h3]
theorem step_panics {P : Program} {ops : Array Oper} {o : Oper} {ac : Act} {K : Act → World → Prop} {Q : Exit → Act → World → Prop} {E : Prop} {w : World} (hgd : o.guard = none) (d : Option Nat) (hd : o.dst = d) (v : Value) (g : Oper.wp P o ac w K Q) (k : Hid False → K (ac.put d v) w) :
    if Region.wanted o (yielded ops ac.tmps) = true then Oper.wp P o ac w K Q else E := by
  rw [if_pos (by simp [Region.wanted, hgd])]
  exact g
set_option maxHeartbeats 2000000 in
theorem reach_bad (a ra ma : Option Addr) (cap wn rl rc n mc : Nat) (pc ad size kind r : Int) (w : World)
    (hft : ∀ X, Below w.heap.size w X → Calls Try.prog 9 #[.slice a wn cap, .int .u32 ad, .int .i64 size, .int .i64 kind] X fun e w' => e = .returned (.int .i64 r) ∧ Below X.heap.size X w') (hr : (r == 0) = false) :
    Calls Try.prog 38 #[gst ra rl rc pc ma n mc, .slice a wn cap, .int .u32 ad, .int .i64 size, .int .i64 kind] w fun e w' => e = .panicked [fltP r] ∧ Below w.heap.size w w' := by
  have hbw : Below w.heap.size w (w.alloc (.cells #[.slice ra rl rc, .int .u32 pc, .slice ma n mc] 29)) := (Below.refl _ w).alloc (Nat.le_refl _) _
  have HC : Hid _ := hft _ hbw
  have HB : Hid _ := hbw
  clear hft hbw
  go_enter Try.func38, Try.ntmps38
  go_wp2_with fail
  refine Calls.mono HC.out ?_
  rintro u w1 ⟨rfl, hb1⟩
  have HB1 : Hid _ := HB.out.trans (hb1.mono HB.out.size)
  clear hb1
  go_wp2_with fail
  refine Calls.mono (raise_yes r _ hr) ?_
  rintro u w2 ⟨rfl, rfl⟩
  go_wp2
  exact ⟨rfl, rfl, HB1.out⟩
set_option maxHeartbeats 4000000 in
theorem reach_ok (a ra : Option Addr) (cap wn rl rc n mc K fr S b2 o2 bi oi len ci : Nat) (pc bs kind : Int) (w : World)
    (hft : ∀ X, Below w.heap.size w X → Calls Try.prog 9 #[.slice a wn cap, .int .u32 (bs + (fr : Int)), .int .i64 (S : Int), .int .i64 kind] X fun e w' => e = .returned (.int .i64 0) ∧ Below X.heap.size X w')
    (hat : ∀ X, Below w.heap.size w X → Calls Try.prog 26 #[.slice a wn cap, .int .i64 (bs + (fr : Int))] X fun e w' => e = .returned (.int .i64 (K : Int)) ∧ Below X.heap.size X w')
    (hba : ∃ b1 o1, a = some ⟨b1, o1, none⟩ ∧ w.cell? ⟨b1, o1 + K * 3, none⟩ = some (.int .i64 bs)) (hrow : w.cell? ⟨b2, o2 + K, none⟩ = some (.slice (some ⟨bi, oi, none⟩) len ci)) (hKw : K < wn) (hK : K < n) (hb0 : 0 ≤ bs) (hb1 : bs ≤ 2048) (hin : fr + S ≤ len) (hlc : len ≤ ci) (hln : len ≤ 2048) (hS : 1 ≤ S) :
    Calls Try.prog 38 #[gst ra rl rc pc (some ⟨b2, o2, none⟩) n mc, .slice a wn cap, .int .u32 (bs + (fr : Int)), .int .i64 (S : Int), .int .i64 kind] w fun e w' => e = .returned (.slice (some ⟨bi, oi + fr, none⟩) S (ci - fr)) ∧ Below w.heap.size w w' := by
  have hbw : Below w.heap.size w (w.alloc (.cells #[.slice ra rl rc, .int .u32 pc, .slice (some ⟨b2, o2, none⟩) n mc] 29)) := (Below.refl _ w).alloc (Nat.le_refl _) _
  have B0 := Bk.new w #[.slice ra rl rc, .int .u32 pc, .slice (some ⟨b2, o2, none⟩) n mc] 29 w.heap.size rfl
  have HC : Hid _ := hft _ hbw
  have HA : Hid (∀ X, Below w.heap.size w X → Calls Try.prog 26 #[.slice a wn cap, .int .i64 (bs + (fr : Int))] X fun e w' => e = .returned (.int .i64 (K : Int)) ∧ Below X.heap.size X w') := hat
  have HB : Hid _ := hbw
  have HR : Hid _ := hrow
  obtain ⟨b1, o1, rfl, p0⟩ := hba
  have HP : Hid _ := p0
  clear hft hbw hat hrow p0
  go_enter Try.func38, Try.ntmps38
  go_wp2_with fail
  refine Calls.mono HC.out ?_
  rintro u w1 ⟨rfl, hb1'⟩
  have HB1 : Hid _ := HB.out.trans (hb1'.mono HB.out.size)
  replace B0 := B0.below hb1'
  clear hb1' HB HC
  go_wp2_with fail
  refine Calls.mono (raise_no _) ?_
  rintro u w2 ⟨rfl, rfl⟩
  go_wp2_with fail
  refine Calls.mono (HA.out _ HB1.out) ?_
  rintro u w3 ⟨rfl, hb3⟩
  have HB3 : Hid _ := HB1.out.trans (hb3.mono HB1.out.size)
  replace B0 := B0.below hb3
  have c2 := B0.cell 2 _ rfl
  have e2 := kept_cell HB3.out HR.out
  have p0 := kept_cell HB3.out HP.out
  have hKw' : (K : Int) < (wn : Int) := by omega
  have hK' : (K : Int) < (n : Int) := by omega
  clear hb3 HB1 HA B0 HR HP
  go_wp2
  go_ret
  exact ⟨ret_slice (by omega) (by omega) (by omega), HB3.out⟩
set_option maxRecDepth 20000 in
set_option maxHeartbeats 4000000 in
theorem load_bad (a ra ma : Option Addr) (cap wn rl rc n mc : Nat) (pc ad size kind r : Int) (w : World)
    (hft : ∀ X, Below w.heap.size w X → Calls Try.prog 9 #[.slice a wn cap, .int .u32 ad, .int .i64 size, .int .i64 kind] X fun e w' => e = .returned (.int .i64 r) ∧ Below X.heap.size X w') (hr : (r == 0) = false) :
    Calls Try.prog 47 #[gst ra rl rc pc ma n mc, .slice a wn cap, .int .u32 ad, .int .i64 size, .int .i64 kind] w fun e w' => e = .panicked [fltP r] ∧ Below w.heap.size w w' := by
  have hbw : Below w.heap.size w ((w.alloc (.cells #[.slice ra rl rc, .int .u32 pc, .slice ma n mc] 29)).alloc (.cells #[.int .u8 0, .int .u8 0, .int .u8 0, .int .u8 0] 88)) := ((Below.refl _ w).alloc (Nat.le_refl _) _).alloc (by simp) _
  have B0 := (Bk.new w #[.slice ra rl rc, .int .u32 pc, .slice ma n mc] 29 w.heap.size rfl).alloc (.cells #[.int .u8 0, .int .u8 0, .int .u8 0, .int .u8 0] 88)
  have HRB : Hid (∀ X, Below w.heap.size w X → Calls Try.prog 38 #[gst ra rl rc pc ma n mc, .slice a wn cap, .int .u32 ad, .int .i64 size, .int .i64 kind] X fun e w' => e = .panicked [fltP r] ∧ Below X.heap.size X w') := fun X hX => reach_bad a ra ma cap wn rl rc n mc pc ad size kind r X (fun Y hY => hft Y (hX.trans (hY.mono hX.size))) hr
  have HB : Hid _ := hbw
  have c0 := B0.cell 0 _ rfl
  have c1 := B0.cell 1 _ rfl
  have c2 := B0.cell 2 _ rfl
  clear hbw B0 hft
  go_enter Try.func47, Try.ntmps47
  go_wp2
  go_region_held_law (fun w' => w'.cell? ⟨w.heap.size, 0, none⟩ = some (.slice ra rl rc) ∧ w'.cell? ⟨w.heap.size, 1, none⟩ = some (.int .u32 pc) ∧ w'.cell? ⟨w.heap.size, 2, none⟩ = some (.slice ma n mc)) (first | exact ⟨c0, c1, c2⟩)
    (first | (refine step_panics rfl (some 20) rfl (.slice none 0 0) (by go_simp; go_at_call 38; refine Calls.mono (HRB.out _ (by first | exact HB.out | exact HB.out.drew)) ?_; rintro u w7 ⟨rfl, hb7⟩; have HB7 : Hid (Below w.heap.size w w7) := (by first | exact HB.out.trans (hb7.mono HB.out.size) | exact HB.out.drew.trans (hb7.mono HB.out.drew.size)); exact ⟨rfl, rfl, HB7.out⟩) ?_; intro hF) | (refine step_panics rfl (some 21) rfl (.int .i64 0) hF.out.elim ?_; intro hF2))
  exact hF.out.elim
end Go.Proofs.Ytanffdedignegaa
