/-
  A step of the core over a guest of the call's own: a register written, in the form that the walks of a step need. No conditions but those that each fact names.
  Memory read and written within a step, by the program and by the specification, over a guest of the call's own. Conditions: the guest is right for its windows.
  What an instruction comes to, as a relation on numbers: registers, place, memory, fault, touch. No Go in sight; no conditions but those that each fact names.
-/
import Derived.Test.YtjlhkjiccibgdaaGreatDoorProg
import Derived.Test.YtjlhkjiccibgdaaGreatDoorInstr
import Derived.Test.YtjlhkjiccibgdaaGreatDoorRdh
import Derived.Test.YtjlhkjiccibgdaaGreatDoorLod
import Derived.Deep.RegionWith
namespace Go.Proofs.YtjlhkjiccibgdaaGreatDoor
open Go.ChangeShapes Go.WideShapes Go.ChangeAt Go.RowKit Go.Deep
set_option linter.unusedVariables false

/-- A step as a value. -/
abbrev stp (ra : Option Addr) (rl rc : Nat) (pc : Int) (ma : Option Addr) (n mc : Nat) (fa op to : Int) (wr ca : Bool) : Value := .agg #[.slice ra rl rc, .int .u32 pc, .slice ma n mc, .int .i64 fa, .int .i64 op, .int .i64 to, .bool wr, .bool ca]
abbrev srow (ra : Option Addr) (rl rc : Nat) (pc : Int) (ma : Option Addr) (n mc : Nat) (fa op to : Int) (wr ca : Bool) : Array Value := #[.slice ra rl rc, .int .u32 pc, .slice ma n mc, .int .i64 fa, .int .i64 op, .int .i64 to, .bool wr, .bool ca]
theorem srow_pc {ra ma : Option Addr} {rl rc n mc : Nat} {pc X Y fa op to : Int} {wr ca : Bool} (h : X = Y) : (srow ra rl rc pc ma n mc fa op to wr ca).set! 1 (.int .u32 X) = srow ra rl rc Y ma n mc fa op to wr ca := by subst h; rfl
theorem srow_to {ra ma : Option Addr} {rl rc n mc : Nat} {pc X Y fa op to : Int} {wr ca : Bool} (h : X = Y) : (srow ra rl rc pc ma n mc fa op to wr ca).set! 5 (.int .i64 X) = srow ra rl rc pc ma n mc fa op Y wr ca := by subst h; rfl
theorem srow_fa {ra ma : Option Addr} {rl rc n mc : Nat} {pc X Y fa op to : Int} {wr ca : Bool} (h : X = Y) : (srow ra rl rc pc ma n mc fa op to wr ca).set! 3 (.int .i64 X) = srow ra rl rc pc ma n mc Y op to wr ca := by subst h; rfl
theorem srow_op {ra ma : Option Addr} {rl rc n mc : Nat} {pc X Y fa op to : Int} {wr ca : Bool} (h : X = Y) : (srow ra rl rc pc ma n mc fa op to wr ca).set! 4 (.int .i64 X) = srow ra rl rc pc ma n mc fa Y to wr ca := by subst h; rfl
theorem srow_wr {ra ma : Option Addr} {rl rc n mc : Nat} {pc fa op to : Int} {wr ca X : Bool} : (srow ra rl rc pc ma n mc fa op to wr ca).set! 6 (.bool X) = srow ra rl rc pc ma n mc fa op to X ca := rfl
theorem srow_ca {ra ma : Option Addr} {rl rc n mc : Nat} {pc fa op to : Int} {wr ca X : Bool} : (srow ra rl rc pc ma n mc fa op to wr ca).set! 7 (.bool X) = srow ra rl rc pc ma n mc fa op to wr X := rfl
theorem put_i (ra ma : Option Addr) (rc n mc k lo mm hi : Nat) (pc x : Int) (rs : List Int) (D : Nat → List Int) (w : World) (hS : OGst w lo mm hi ra ma rs n D) (hl : rs.length = 16) (hk : k ≤ 15) (hlm : lo ≤ mm) (hmh : mm ≤ hi) :
    Calls Tryz.prog 78 #[gst ra 16 rc pc ma n mc, .int .i64 (k : Int), .int .u32 x] w fun e w' => e = .returned (.tuple #[]) ∧ Betw lo hi w w' ∧ OGst w' lo mm hi ra ma (setR rs k x) n D := by
  obtain ⟨R, hon, hcl⟩ := hS.set (by omega)
  have hr := hon.range (by omega)
  exact (impl_set ra ma 16 rc n mc k lo mm R pc x rs w hon hl (by omega) (by omega)).mono fun e w' h => ⟨h.1, h.2.1.wide hr.1 (by omega), hcl w' _ h.2.1 h.2.2⟩
theorem put_s (ra ma : Option Addr) (rc n mc k lo hi : Nat) (pc x : Int) (rs : List Int) (D : Nat → List Int) (w : World) (hS : Sep w lo hi ra ma rs n D) (hl : rs.length = 16) (hk : k ≤ 15) :
    Calls Tryz.prog 42 #[gst ra 16 rc pc ma n mc, .int .i64 (k : Int), .int .u32 x] w fun e w' => e = .returned (.tuple #[]) ∧ Betw lo hi w w' ∧ Sep w' lo hi ra ma (setR rs k x) n D := by
  obtain ⟨R, hon, hcl⟩ := hS.set (by omega)
  have hr := hon.range (by omega)
  exact (spec_set ra ma 16 rc n mc k lo hi R pc x rs w hon hl (by omega) (by omega)).mono fun e w' h => ⟨h.1, h.2.1.wide hr.1 (by omega), hcl w' _ h.2.1 h.2.2⟩
/-- Where the registers lie. -/
theorem regs_at {w : World} {lo mm hi : Nat} {ra ma : Option Addr} {rs : List Int} {n : Nat} {D : Nat → List Int} (hS : OGst w lo mm hi ra ma rs n D) (hl : rs.length = 16) :
    ∃ R off, ra = some ⟨R, off, none⟩ ∧ R < w.heap.size ∧ lo ≤ R ∧ R < mm ∧ ∀ i, i < 16 → w.cell? ⟨R, off + i, none⟩ = some (.int .u32 (rs.getD i 0)) := by
  obtain ⟨R, hon, _⟩ := hS.set (by omega)
  obtain ⟨off, e, h1, h2, h3, h4, _⟩ := hon (by omega)
  exact ⟨R, off, e, h3, h1, h2, fun i hi => h4 i (by omega)⟩
theorem regs_as {w : World} {lo hi : Nat} {ra ma : Option Addr} {rs : List Int} {n : Nat} {D : Nat → List Int} (hS : Sep w lo hi ra ma rs n D) (hl : rs.length = 16) :
    ∃ R off, ra = some ⟨R, off, none⟩ ∧ R < w.heap.size ∧ lo ≤ R ∧ R < hi ∧ ∀ i, i < 16 → w.cell? ⟨R, off + i, none⟩ = some (.int .u32 (rs.getD i 0)) := by
  obtain ⟨R, hon, _⟩ := hS.set (by omega)
  obtain ⟨off, e, h1, h2, h3, h4, _⟩ := hon (by omega)
  exact ⟨R, off, e, h3, h1, h2, fun i hi => h4 i (by omega)⟩
theorem wf_reg {rs : List Int} (h : ∀ z ∈ rs, (Lit.int .u32 z).wf = true) (hl : rs.length = 16) (i : Nat) (hi : i < 16) : 0 ≤ rs.getD i 0 ∧ rs.getD i 0 ≤ 4294967295 :=
  bounds_u32 (h _ (getD_mem rs i (by omega)))
end Go.Proofs.YtjlhkjiccibgdaaGreatDoor
namespace Go.Proofs.YtjlhkjiccibgdaaGreatDoor
open Go.ChangeShapes Go.WideShapes Go.ChangeAt Go.RowKit Go.Deep
set_option linter.unusedVariables false

theorem store_i {xs : List Wn} {rs : List Int} {n : Nat} {D D1 : Nat → List Int} {ad size x : Int} (hg : GOk xs rs n D) (hpk : PkP xs n D ad size x 0 D1) (a ra ma : Option Addr) (cap rc mc lo mm hi : Nat) (pc : Int) (X : World)
    (hS : OGst X lo mm hi ra ma rs n D) (hlm : lo ≤ mm) (hmh : mm ≤ hi) (hs : ASeg X a xs) (hf : Fit xs) (hc : n ≤ cap) (had : 0 ≤ ad ∧ ad < 4294967296) (hx0 : 0 ≤ x) (hx1 : x ≤ 4294967295) :
    Calls Tryz.prog 79 #[gst ra 16 rc pc ma n mc, .slice a n cap, .int .u32 ad, .int .i64 size, .int .u32 x] X fun e w' => e = .returned (.tuple #[]) ∧ Betw lo hi X w' ∧ OGst w' lo mm hi ra ma rs n D1 := by
  obtain ⟨v, hrd, hcase⟩ := hpk
  have hl : xs.length = n := hg.2.2.2.1.symm
  have h4 := hg.1.1
  have hin : ∃ K fr S bs, AtP xs n ad ((K : Nat) : Int) ∧ AccIn xs n D ad size K fr S bs ∧ D1 = putD D K fr S x := by
    rcases hcase with ⟨h, _⟩ | ⟨_, h⟩
    · exact absurd rfl h
    · exact h
  obtain ⟨K, fr, S, bs, hatp, hacc, hD1⟩ := hin
  obtain ⟨k1, k2, k3, k4, rfl, rfl, k7, k8, k9⟩ := hacc
  obtain ⟨⟨R, hR⟩, hm⟩ := hS
  obtain ⟨b2, o2, bi, oi, ci, rfl, e2, hlc, hne, hlo, hhi, hbiw, hon, hput⟩ := brows_row hm K k1 (by omega)
  obtain ⟨b1, o1, rfl, hbl1, p0⟩ := seg_lt2 hs (K := K) (by omega)
  rw [k2] at p0
  have hst := store_ok (some ⟨b1, o1, none⟩) ra cap n 16 rc n mc K fr S b2 o2 bi oi (D K).length ci mm hi pc bs x (D K) X hx0 hx1 (fun Y hY =>
    reach_ok _ ra cap n 16 rc n mc K fr S b2 o2 bi oi (D K).length ci pc bs 2 Y (fun Z hZ => fault_i hg hrd _ cap Z (hs.below (hY.trans (hZ.mono hY.size))) hf hc had) (fun Z hZ => impl_at _ cap n xs true _ _ n Z (hs.below (hY.trans (hZ.mono hY.size))) hf hl (by omega) hc ⟨fun _ => hg.1, fun _ => rfl⟩ (fun h => (by cases h)) (fun _ => rfl) hatp) ⟨b1, o1, rfl, kept_cell hY p0⟩ (kept_cell hY e2) k1 k1 k3 k4 k8 hlc k9 (by omega)) hon rfl k7 k8
  refine hst.mono fun e w' h => ?_
  obtain ⟨he, hbt, hon'⟩ := h
  rw [hD1]
  exact ⟨he, hbt.wide (by omega) (by omega), ⟨R, hR.betw hbt (fun h0 => by have := hR.range h0; omega)⟩, hput w' _ (putRow_len _ _ _ _) hbt hon'⟩
theorem store_ir {xs : List Wn} {rs : List Int} {n : Nat} {D D1 : Nat → List Int} {ad size x r : Int} (hg : GOk xs rs n D) (hpk : PkP xs n D ad size x r D1) (hr : (r == 0) = false) (a ra ma : Option Addr) (cap rc mc : Nat) (pc : Int) (X : World)
    (hs : ASeg X a xs) (hf : Fit xs) (hc : n ≤ cap) (had : 0 ≤ ad ∧ ad < 4294967296) :
    Calls Tryz.prog 79 #[gst ra 16 rc pc ma n mc, .slice a n cap, .int .u32 ad, .int .i64 size, .int .u32 x] X fun e w' => e = .panicked [fltP r] ∧ Below X.heap.size X w' := by
  obtain ⟨v, hrd, _⟩ := hpk
  exact store_bad a ra ma cap n 16 rc n mc pc ad size x r X (fun Y hY => fault_i hg hrd a cap Y (hs.below hY) hf hc had) hr
theorem load_ir {xs : List Wn} {rs : List Int} {n : Nat} {D : Nat → List Int} {ad size kind v r : Int} (hg : GOk xs rs n D) (h : RdP xs n D ad size kind v r) (hr : (r == 0) = false) (a ra ma : Option Addr) (cap rc mc : Nat) (pc : Int) (X : World) (hs : ASeg X a xs) (hf : Fit xs) (hc : n ≤ cap) (had : 0 ≤ ad ∧ ad < 4294967296) :
    Calls Tryz.prog 54 #[gst ra 16 rc pc ma n mc, .slice a n cap, .int .u32 ad, .int .i64 size, .int .i64 kind] X fun e w' => e = .panicked [fltP r] ∧ Below X.heap.size X w' :=
  load_bad a ra ma cap n 16 rc n mc pc ad size kind r X (fun Y hY => fault_i hg h a cap Y (hs.below hY) hf hc had) hr
theorem put_m {xs : List Wn} {rs : List Int} {n : Nat} {D D1 : Nat → List Int} {ad size x : Int} (hg : GOk xs rs n D) (hpk : PkP xs n D ad size x 0 D1) (a ra ma : Option Addr) (cap rc mc lo hi : Nat) (pc : Int) (X : World)
    (hS : Sep X lo hi ra ma rs n D) (hs : ASeg X a xs) (hsl : ∀ b off, a = some ⟨b, off, none⟩ → b < lo) (had : 0 ≤ ad ∧ ad < 4294967296) (hx0 : 0 ≤ x) (hx1 : x ≤ 4294967295) :
    Calls Tryz.prog 44 #[.slice a n cap, gst ra 16 rc pc ma n mc, .int .i64 ad, .int .i64 size, .int .u32 x] X fun e w' => e = .returned (.tuple #[]) ∧ Betw lo hi X w' ∧ Sep w' lo hi ra ma rs n D1 := by
  obtain ⟨v, hrd, hcase⟩ := hpk
  have hl : xs.length = n := hg.2.2.2.1.symm
  have h4 := hg.1.1
  have hin : ∃ K fr S bs, AtP xs n ad ((K : Nat) : Int) ∧ AccIn xs n D ad size K fr S bs ∧ D1 = putD D K fr S x := by
    rcases hcase with ⟨h, _⟩ | ⟨_, h⟩
    · exact absurd rfl h
    · exact h
  obtain ⟨K, fr, S, bs, hatp, hacc, hD1⟩ := hin
  obtain ⟨k1, k2, k3, k4, rfl, rfl, k7, k8, k9⟩ := hacc
  obtain ⟨l2, h2, g1, g2, hm, R, hR, hRs⟩ := hS
  obtain ⟨b2, o2, bi, oi, ci, rfl, e2, hlc, hne, hlo, hhi, hbiw, hon, hput⟩ := brows_row hm K k1 (by omega)
  obtain ⟨b1, o1, rfl, hbl1, p0⟩ := seg_lt2 hs (K := K) (by omega)
  have hb1 := hsl b1 o1 rfl
  rw [k2] at p0
  refine (spec_put ra cap n 16 rc n mc K fr S b1 o1 b2 o2 bi oi (D K).length ci l2 h2 pc bs x (D K) X hx0 hx1 (fun Y hY => spec_l07at _ cap n xs _ _ Y (hs.below (betw00 hY)) hl hg.1 hatp) p0 e2 hon rfl k1 k1 k3 k4 k8 k9 (by omega) (by omega) hne (by omega)).mono fun e w' h => ?_
  obtain ⟨he, hbt, hon'⟩ := h
  rw [hD1]
  exact ⟨he, hbt.wide (by omega) (by omega), l2, h2, g1, g2, hput w' _ (putRow_len _ _ _ _) hbt hon', R, hR.betw hbt (fun h0 => by have := hRs h0; omega), hRs⟩
end Go.Proofs.YtjlhkjiccibgdaaGreatDoor
namespace Go.Proofs.YtjlhkjiccibgdaaGreatDoor
open Go.ChangeShapes Go.WideShapes Go.ChangeAt Go.RowKit Go.Deep
set_option linter.unusedVariables false

abbrev nextF (pc : Int) : Int := (pc + 4) % 4294967296
abbrev targF (pc m : Int) : Int := ((((pc + 4) % 4294967296) + 4 * (m % 4294967296) % 4294967296) % 4294967296)
abbrev addrF (rs : List Int) (B : Nat) (m : Int) : Int := ((rs.getD B 0 + m % 4294967296) % 4294967296)
/-- What the instruction 'op A B C m' does to a guest at the cycle 'cy': registers, place, memory behind it; the fault; the address touched; whether it wrote. -/
inductive DoP (xs : List Wn) (rs : List Int) (pc : Int) (n : Nat) (D : Nat → List Int) (cy : Int) (A B C : Nat) (m : Int) : Int → List Int → Int → (Nat → List Int) → Int → Int → Bool → Prop
  | nop : DoP xs rs pc n D cy A B C m 0 rs (nextF pc) D 0 (-1) false
  | alu (op x : Int) (h1 : 1 ≤ op) (h2 : op ≤ 12) (h : aluF op (rs.getD B 0) (rs.getD C 0) = (x, 0)) : DoP xs rs pc n D cy A B C m op (setR rs A x) (nextF pc) D 0 (-1) false
  | alub (op x r : Int) (h1 : 1 ≤ op) (h2 : op ≤ 12) (h : aluF op (rs.getD B 0) (rs.getD C 0) = (x, r)) (hr : ¬ r = 0) : DoP xs rs pc n D cy A B C m op rs pc D r (-1) false
  | addi : DoP xs rs pc n D cy A B C m 13 (setR rs A (addrF rs B m)) (nextF pc) D 0 (-1) false
  | lui : DoP xs rs pc n D cy A B C m 14 (setR rs A (m % 4294967296 * 16384 % 4294967296)) (nextF pc) D 0 (-1) false
  | ld (op size v : Int) (h : op = 15 ∧ size = 4 ∨ op = 17 ∧ size = 1) (hd : RdP xs n D (addrF rs B m) size 1 v 0) : DoP xs rs pc n D cy A B C m op (setR rs A v) (nextF pc) D 0 (addrF rs B m) false
  | ldb (op size v r : Int) (h : op = 15 ∧ size = 4 ∨ op = 17 ∧ size = 1) (hd : RdP xs n D (addrF rs B m) size 1 v r) (hr : ¬ r = 0) : DoP xs rs pc n D cy A B C m op rs pc D r (-1) false
  | st (op size : Int) (D1 : Nat → List Int) (h : op = 16 ∧ size = 4 ∨ op = 18 ∧ size = 1) (hd : PkP xs n D (addrF rs B m) size (rs.getD A 0) 0 D1) : DoP xs rs pc n D cy A B C m op rs (nextF pc) D1 0 (addrF rs B m) true
  | stb (op size r : Int) (D1 : Nat → List Int) (h : op = 16 ∧ size = 4 ∨ op = 18 ∧ size = 1) (hd : PkP xs n D (addrF rs B m) size (rs.getD A 0) r D1) (hr : ¬ r = 0) : DoP xs rs pc n D cy A B C m op rs pc D r (-1) false
  | bry (op : Int) (h : op = 19 ∨ op = 20 ∨ op = 21) (ht : takenF op (rs.getD A 0) (rs.getD B 0) = true) : DoP xs rs pc n D cy A B C m op rs (targF pc m) D 0 (-1) false
  | brn (op : Int) (h : op = 19 ∨ op = 20 ∨ op = 21) (ht : takenF op (rs.getD A 0) (rs.getD B 0) = false) : DoP xs rs pc n D cy A B C m op rs (nextF pc) D 0 (-1) false
  | jal : DoP xs rs pc n D cy A B C m 22 (setR rs A (nextF pc)) (targF pc m) D 0 (-1) false
  | jr : DoP xs rs pc n D cy A B C m 23 rs (addrF rs B m) D 0 (-1) false
  | rdc : DoP xs rs pc n D cy A B C m 24 (setR rs A (cy % 4294967296)) (nextF pc) D 0 (-1) false
theorem DoP.ex {xs : List Wn} {rs : List Int} {n : Nat} {D : Nat → List Int} (hg : GOk xs rs n D) (pc cy : Int) (A B C : Nat) (m op : Int) (h0 : 0 ≤ op) (h1 : op ≤ 24) :
    ∃ rs' pc' D' fa to wr, DoP xs rs pc n D cy A B C m op rs' pc' D' fa to wr ∧ rs'.length = rs.length ∧ ∀ i, (D' i).length = (D i).length := by
  by_cases ha : 1 ≤ op ∧ op ≤ 12
  · obtain ⟨x, r, e⟩ : ∃ x r, aluF op (rs.getD B 0) (rs.getD C 0) = (x, r) := ⟨_, _, rfl⟩
    by_cases hr : r = 0
    · subst hr
      exact ⟨_, _, _, _, _, _, .alu op x ha.1 ha.2 e, setR_len _ _ _, fun _ => rfl⟩
    · exact ⟨_, _, _, _, _, _, .alub op x r ha.1 ha.2 e hr, rfl, fun _ => rfl⟩
  have hld : ∀ size : Int, (op = 15 ∧ size = 4 ∨ op = 17 ∧ size = 1) → ∃ rs' pc' D' fa to wr, DoP xs rs pc n D cy A B C m op rs' pc' D' fa to wr ∧ rs'.length = rs.length ∧ ∀ i, (D' i).length = (D i).length := fun size h => by
    obtain ⟨v, r, hd⟩ := RdP.ex hg (addrF rs B m) size 1
    by_cases hr : r = 0
    · subst hr
      exact ⟨_, _, _, _, _, _, .ld op size v h hd, setR_len _ _ _, fun _ => rfl⟩
    · exact ⟨_, _, _, _, _, _, .ldb op size v r h hd hr, rfl, fun _ => rfl⟩
  have hst : ∀ size : Int, (op = 16 ∧ size = 4 ∨ op = 18 ∧ size = 1) → ∃ rs' pc' D' fa to wr, DoP xs rs pc n D cy A B C m op rs' pc' D' fa to wr ∧ rs'.length = rs.length ∧ ∀ i, (D' i).length = (D i).length := fun size h => by
    obtain ⟨r, D1, hd, hl⟩ := PkP.ex hg (addrF rs B m) size (rs.getD A 0)
    by_cases hr : r = 0
    · subst hr
      exact ⟨_, _, _, _, _, _, .st op size D1 h hd, rfl, hl⟩
    · exact ⟨_, _, _, _, _, _, .stb op size r D1 h hd hr, rfl, fun _ => rfl⟩
  by_cases hb : op = 19 ∨ op = 20 ∨ op = 21
  · cases ht : takenF op (rs.getD A 0) (rs.getD B 0)
    · exact ⟨_, _, _, _, _, _, .brn op hb ht, rfl, fun _ => rfl⟩
    · exact ⟨_, _, _, _, _, _, .bry op hb ht, rfl, fun _ => rfl⟩
  have : op = 0 ∨ op = 13 ∨ op = 14 ∨ op = 15 ∨ op = 16 ∨ op = 17 ∨ op = 18 ∨ op = 22 ∨ op = 23 ∨ op = 24 := by omega
  rcases this with rfl | rfl | rfl | rfl | rfl | rfl | rfl | rfl | rfl | rfl
  · exact ⟨_, _, _, _, _, _, .nop, rfl, fun _ => rfl⟩
  · exact ⟨_, _, _, _, _, _, .addi, setR_len _ _ _, fun _ => rfl⟩
  · exact ⟨_, _, _, _, _, _, .lui, setR_len _ _ _, fun _ => rfl⟩
  · exact hld 4 (by omega)
  · exact hst 4 (by omega)
  · exact hld 1 (by omega)
  · exact hst 1 (by omega)
  · exact ⟨_, _, _, _, _, _, .jal, setR_len _ _ _, fun _ => rfl⟩
  · exact ⟨_, _, _, _, _, _, .jr, rfl, fun _ => rfl⟩
  · exact ⟨_, _, _, _, _, _, .rdc, setR_len _ _ _, fun _ => rfl⟩
end Go.Proofs.YtjlhkjiccibgdaaGreatDoor
