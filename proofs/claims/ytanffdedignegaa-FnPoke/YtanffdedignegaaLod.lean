
/-
  What the program loads from a guest's memory: the word that lies there. Conditions: the guest is right for its windows, nothing stands against the access.
-/
import Derived.Test.YtanffdedignegaaBas
import Derived.Test.YtanffdedignegaaProg
import Derived.Test.YtanffdedignegaaRea
import Derived.Laws.IdiomCopy
namespace Go.Proofs.Ytanffdedignegaa
open Go.ChangeShapes Go.WideShapes Go.ChangeAt Go.RowKit Go.Deep
set_option linter.unusedVariables false

theorem step_copy_cells {P : Program} {ops : Array Oper} {oo : Oper} {ac : Act} {w : World} {K : Act → World → Prop} {Q : Exit → Act → World → Prop} {E : Prop} (hgd : oo.guard = none) (d s : Operand) (dT sT elem : TypeId)
    (ho : oo.op = .call { callee := .builtin .copy, args := #[d, s], argTypes := #[dT, sT] }) (hu : P.underlying dT = some (.slice elem)) (hsz : (P.info? elem).map (·.size) = some 1)
    (b o dLen dCap : Nat) (ad : Addr) (sLen sCap : Nat) (hd : ac.eval d = .slice (some ⟨b, o, none⟩) dLen dCap) (hs : ac.eval s = .slice (some ad) sLen sCap) (cs : List Value) (hn : cs.length = Nat.min sLen dLen)
    (hsrc : ∀ j v, cs[j]? = some v → w.cell? (ad.add j) = some v) (hc : ∀ j, j < cs.length → (w.cell? ⟨b, o + j, none⟩).isSome = true) (hf : ∀ j, j < cs.length → w.frozen? ⟨b, o + j, none⟩ = false) (h1 : ∀ v ∈ cs, v.oneCell' = true) (dd : Option Nat) (hdd : oo.dst = dd)
    (h : K (ac.put dd (goInt cs.length)) (w.setCells b o cs)) : if Region.wanted oo (yielded ops ac.tmps) = true then Oper.wp P oo ac w K Q else E := by
  have hw : Region.wanted oo (yielded ops ac.tmps) = true := by simp [Region.wanted, hgd]
  rw [if_pos hw]
  subst hdd
  have hrun := run_copy_cells (P := P) w dT sT oo.type elem b o dLen dCap ad sLen sCap cs hu hsz hn hsrc hc hf h1
  unfold Oper.wp
  simp [execOp, ho, resolve, invoke, builtin, hd, hs, hrun, Result.andThen]
  exact h
theorem infoB1 : (Try.prog.info? 5).map (·.size) = some 1 := by kernel_rfl
theorem one_bytes (zs : List Int) : ∀ v ∈ zs.map (Value.int .u8), v.oneCell' = true := by
  intro v hv
  obtain ⟨z, _, rfl⟩ := List.mem_map.1 hv
  rfl
theorem bk_kept {w w' : World} {b : Nat} {cs : Array Value} (hb : Below w.heap.size w w') (h : Bk w b cs) : Bk w' b cs := h.below hb
theorem room4 {w : World} {B : Nat} {x0 x1 x2 x3 : Value} (h : Bk w B #[x0, x1, x2, x3]) (S : Nat) (hS : S ≤ 4) : ∀ j, j < S → (w.cell? ⟨B, 0 + j, none⟩).isSome = true := fun j hj => by
  have : j = 0 ∨ j = 1 ∨ j = 2 ∨ j = 3 := by omega
  rcases this with rfl | rfl | rfl | rfl
  · rw [h.cell 0 x0 rfl]; rfl
  · rw [h.cell 1 x1 rfl]; rfl
  · rw [h.cell 2 x2 rfl]; rfl
  · rw [h.cell 3 x3 rfl]; rfl
theorem src1 {w : World} {b o : Nat} {z0 : Int} (h : w.cell? ⟨b, o + 0, none⟩ = some (.int .u8 z0)) : ∀ j v, [Value.int .u8 z0][j]? = some v → w.cell? ((⟨b, o, none⟩ : Addr).add j) = some v := fun j v hj => by
  rw [add_plain]
  have : j = 0 := by
    rcases Nat.lt_or_ge j 1 with g | g
    · omega
    · rw [List.getElem?_eq_none (by simpa using g)] at hj; cases hj
  subst this
  cases hj
  exact h
theorem src4 {w : World} {b o : Nat} {z0 z1 z2 z3 : Int} (h : w.cell? ⟨b, o + 0, none⟩ = some (.int .u8 z0) ∧ w.cell? ⟨b, o + 1, none⟩ = some (.int .u8 z1) ∧ w.cell? ⟨b, o + 2, none⟩ = some (.int .u8 z2) ∧ w.cell? ⟨b, o + 3, none⟩ = some (.int .u8 z3)) : ∀ j v, [Value.int .u8 z0, .int .u8 z1, .int .u8 z2, .int .u8 z3][j]? = some v → w.cell? ((⟨b, o, none⟩ : Addr).add j) = some v := fun j v hj => by
  rw [add_plain]
  have : j = 0 ∨ j = 1 ∨ j = 2 ∨ j = 3 := by
    rcases Nat.lt_or_ge j 4 with g | g
    · omega
    · rw [List.getElem?_eq_none (by simpa using g)] at hj; cases hj
  rcases this with rfl | rfl | rfl | rfl <;> cases hj
  · exact h.1
  · exact h.2.1
  · exact h.2.2.1
  · exact h.2.2.2
theorem st1 {w : World} {b c i j : Nat} {v u : Value} (hne : b ≠ c) (h : w.cell? ⟨b, i, none⟩ = some v) : (w.setCell ⟨c, j, none⟩ u).cell? ⟨b, i, none⟩ = some v := by
  rw [World.cell?_setCell_other _ _ _ _ (by intro c'; injection c' with c1 c2 c3; exact hne c1.symm)]; exact h
set_option maxRecDepth 20000 in
set_option maxHeartbeats 8000000 in
theorem load_ok1 (a ra : Option Addr) (cap wn rl rc n mc K fr b2 o2 bi oi len ci : Nat) (pc bs kind z0 : Int) (w : World)
    (hft : ∀ X, Below w.heap.size w X → Calls Try.prog 9 #[.slice a wn cap, .int .u32 (bs + (fr : Int)), .int .i64 1, .int .i64 kind] X fun e w' => e = .returned (.int .i64 0) ∧ Below X.heap.size X w')
    (hat : ∀ X, Below w.heap.size w X → Calls Try.prog 26 #[.slice a wn cap, .int .i64 (bs + (fr : Int))] X fun e w' => e = .returned (.int .i64 (K : Int)) ∧ Below X.heap.size X w')
    (hba : ∃ b1 o1, a = some ⟨b1, o1, none⟩ ∧ w.cell? ⟨b1, o1 + K * 3, none⟩ = some (.int .i64 bs)) (hrow : w.cell? ⟨b2, o2 + K, none⟩ = some (.slice (some ⟨bi, oi, none⟩) len ci)) (hKw : K < wn) (hK : K < n) (hb0 : 0 ≤ bs) (hb1 : bs ≤ 2048) (hin : fr + 1 ≤ len) (hlc : len ≤ ci) (hln : len ≤ 2048)
    (q0 : w.cell? ⟨bi, oi + fr + 0, none⟩ = some (.int .u8 z0)) (y0 : 0 ≤ z0) (Y0 : z0 ≤ 255) :
    Calls Try.prog 47 #[gst ra rl rc pc (some ⟨b2, o2, none⟩) n mc, .slice a wn cap, .int .u32 (bs + (fr : Int)), .int .i64 1, .int .i64 kind] w fun e w' => e = .returned (.int .u32 (z0)) ∧ Below w.heap.size w w' := by
  have hbw : Below w.heap.size w ((w.alloc (.cells #[.slice ra rl rc, .int .u32 pc, .slice (some ⟨b2, o2, none⟩) n mc] 29)).alloc (.cells #[.int .u8 0, .int .u8 0, .int .u8 0, .int .u8 0] 88)) := ((Below.refl _ w).alloc (Nat.le_refl _) _).alloc (by simp) _
  have B0 := (Bk.new w #[.slice ra rl rc, .int .u32 pc, .slice (some ⟨b2, o2, none⟩) n mc] 29 w.heap.size rfl).alloc (.cells #[.int .u8 0, .int .u8 0, .int .u8 0, .int .u8 0] 88)
  have B1 := Bk.new (w.alloc (.cells #[.slice ra rl rc, .int .u32 pc, .slice (some ⟨b2, o2, none⟩) n mc] 29)) #[.int .u8 0, .int .u8 0, .int .u8 0, .int .u8 0] 88 (w.heap.size + 1) (by simp)
  have HRB : Hid (∀ X, Below w.heap.size w X → Calls Try.prog 38 #[gst ra rl rc pc (some ⟨b2, o2, none⟩) n mc, .slice a wn cap, .int .u32 (bs + (fr : Int)), .int .i64 1, .int .i64 kind] X fun e w' => e = .returned (.slice (some ⟨bi, oi + fr, none⟩) 1 (ci - fr)) ∧ Below X.heap.size X w') := fun X hX => reach_ok a ra cap wn rl rc n mc K fr 1 b2 o2 bi oi len ci pc bs kind X (fun Y hY => hft Y (hX.trans (hY.mono hX.size))) (fun Y hY => hat Y (hX.trans (hY.mono hX.size))) (by obtain ⟨b1, o1, e, p⟩ := hba; exact ⟨b1, o1, e, kept_cell hX p⟩) (kept_cell hX hrow) hKw hK hb0 hb1 hin hlc hln (by omega)
  have HB : Hid (Below w.heap.size w _) := hbw
  have HKK : Hid (Bk _ w.heap.size _ ∧ Bk _ (w.heap.size + 1) #[.int .u8 0, .int .u8 0, .int .u8 0, .int .u8 0]) := ⟨B0, B1⟩
  have HQ : Hid (∀ X, Below w.heap.size w X → X.cell? ⟨bi, oi + fr + 0, none⟩ = some (.int .u8 z0)) := fun X hX => kept_cell hX q0
  have c0 := B0.cell 0 _ rfl
  have c1 := B0.cell 1 _ rfl
  have c2 := B0.cell 2 _ rfl
  clear hbw B0 B1 hft hat hba hrow q0
  go_enter Try.func47, Try.ntmps47
  go_wp2
  go_region_held_law (fun w' => w'.cell? ⟨w.heap.size, 0, none⟩ = some (.slice ra rl rc) ∧ w'.cell? ⟨w.heap.size, 1, none⟩ = some (.int .u32 pc) ∧ w'.cell? ⟨w.heap.size, 2, none⟩ = some (.slice (some ⟨b2, o2, none⟩) n mc)) (first | exact ⟨c0, c1, c2⟩ | exact ⟨st1 (by omega) (c0), st1 (by omega) (c1), st1 (by omega) (c2)⟩)
    (first | (go_at_call 38; refine Calls.mono (HRB.out _ (by first | exact HB.out | exact HB.out.drew)) ?_; rintro u w7 ⟨rfl, hb7⟩; have HB7 : Hid (Below w.heap.size w w7) := (by first | exact HB.out.trans (hb7.mono HB.out.size) | exact HB.out.drew.trans (hb7.mono HB.out.drew.size)); have HK7 : Hid (Bk w7 w.heap.size _ ∧ Bk w7 (w.heap.size + 1) #[.int .u8 0, .int .u8 0, .int .u8 0, .int .u8 0]) := (by first | exact ⟨HKK.out.1.below hb7, HKK.out.2.below hb7⟩ | exact ⟨bk_kept hb7 (bk_kept (Below.refl _ _).drew HKK.out.1), bk_kept hb7 (bk_kept (Below.refl _ _).drew HKK.out.2)⟩); replace c0 := HK7.out.1.cell 0 _ rfl; replace c1 := HK7.out.1.cell 1 _ rfl; replace c2 := HK7.out.1.cell 2 _ rfl; clear hb7) | (refine step_copy_cells rfl (.tmp 14) (.tmp 20) 22 22 5 rfl Try.underlying22 infoB1 (w.heap.size + 1) 0 4 4 ⟨bi, oi + fr, none⟩ 1 (ci - fr) rfl rfl [.int .u8 z0] rfl (src1 (HQ.out _ HB7.out)) (room4 HK7.out.2 1 (by omega)) (fun j _ => HK7.out.2.free _) (one_bytes [z0]) (some 21) rfl ?_; simp only [World.setCells]))
  have W := (HK7.out.2.set 0 (.int .u8 z0) (by simp) rfl)
  have HWD : Hid _ := impl_word (w.heap.size + 1) 0 4 (z0) (0) (0) (0) _ (by omega) (by omega) (by omega) (by omega) (by omega) (by omega) (by omega) (by omega) (W.cell 0 _ rfl) (W.cell 1 _ rfl) (W.cell 2 _ rfl) (W.cell 3 _ rfl)
  have HBW : Hid (Below w.heap.size w (w7.setCell ⟨w.heap.size + 1, 0, none⟩ (.int .u8 z0))) := (HB7.out.setCell (p := ⟨w.heap.size + 1, 0, none⟩) (by simp) _)
  clear W c0 c1 c2
  simp only [Act.put, List.setIfInBounds_toArray, List.set_cons_zero, List.set_cons_succ]
  go_wp2_with fail
  refine Calls.mono HWD.out ?_
  rintro u w8 ⟨rfl, m8, rfl⟩
  go_wp2
  go_ret
  exact ⟨ret_int (by omega), below_drewN HBW.out _⟩
set_option maxRecDepth 20000 in
set_option maxHeartbeats 8000000 in
theorem load_ok4 (a ra : Option Addr) (cap wn rl rc n mc K fr b2 o2 bi oi len ci : Nat) (pc bs kind z0 z1 z2 z3 : Int) (w : World)
    (hft : ∀ X, Below w.heap.size w X → Calls Try.prog 9 #[.slice a wn cap, .int .u32 (bs + (fr : Int)), .int .i64 4, .int .i64 kind] X fun e w' => e = .returned (.int .i64 0) ∧ Below X.heap.size X w')
    (hat : ∀ X, Below w.heap.size w X → Calls Try.prog 26 #[.slice a wn cap, .int .i64 (bs + (fr : Int))] X fun e w' => e = .returned (.int .i64 (K : Int)) ∧ Below X.heap.size X w')
    (hba : ∃ b1 o1, a = some ⟨b1, o1, none⟩ ∧ w.cell? ⟨b1, o1 + K * 3, none⟩ = some (.int .i64 bs)) (hrow : w.cell? ⟨b2, o2 + K, none⟩ = some (.slice (some ⟨bi, oi, none⟩) len ci)) (hKw : K < wn) (hK : K < n) (hb0 : 0 ≤ bs) (hb1 : bs ≤ 2048) (hin : fr + 4 ≤ len) (hlc : len ≤ ci) (hln : len ≤ 2048)
    (q0 : w.cell? ⟨bi, oi + fr + 0, none⟩ = some (.int .u8 z0)) (y0 : 0 ≤ z0) (Y0 : z0 ≤ 255) (q1 : w.cell? ⟨bi, oi + fr + 1, none⟩ = some (.int .u8 z1)) (y1 : 0 ≤ z1) (Y1 : z1 ≤ 255) (q2 : w.cell? ⟨bi, oi + fr + 2, none⟩ = some (.int .u8 z2)) (y2 : 0 ≤ z2) (Y2 : z2 ≤ 255) (q3 : w.cell? ⟨bi, oi + fr + 3, none⟩ = some (.int .u8 z3)) (y3 : 0 ≤ z3) (Y3 : z3 ≤ 255) :
    Calls Try.prog 47 #[gst ra rl rc pc (some ⟨b2, o2, none⟩) n mc, .slice a wn cap, .int .u32 (bs + (fr : Int)), .int .i64 4, .int .i64 kind] w fun e w' => e = .returned (.int .u32 (z0 + 256 * z1 + 65536 * z2 + 16777216 * z3)) ∧ Below w.heap.size w w' := by
  have hbw : Below w.heap.size w ((w.alloc (.cells #[.slice ra rl rc, .int .u32 pc, .slice (some ⟨b2, o2, none⟩) n mc] 29)).alloc (.cells #[.int .u8 0, .int .u8 0, .int .u8 0, .int .u8 0] 88)) := ((Below.refl _ w).alloc (Nat.le_refl _) _).alloc (by simp) _
  have B0 := (Bk.new w #[.slice ra rl rc, .int .u32 pc, .slice (some ⟨b2, o2, none⟩) n mc] 29 w.heap.size rfl).alloc (.cells #[.int .u8 0, .int .u8 0, .int .u8 0, .int .u8 0] 88)
  have B1 := Bk.new (w.alloc (.cells #[.slice ra rl rc, .int .u32 pc, .slice (some ⟨b2, o2, none⟩) n mc] 29)) #[.int .u8 0, .int .u8 0, .int .u8 0, .int .u8 0] 88 (w.heap.size + 1) (by simp)
  have HRB : Hid (∀ X, Below w.heap.size w X → Calls Try.prog 38 #[gst ra rl rc pc (some ⟨b2, o2, none⟩) n mc, .slice a wn cap, .int .u32 (bs + (fr : Int)), .int .i64 4, .int .i64 kind] X fun e w' => e = .returned (.slice (some ⟨bi, oi + fr, none⟩) 4 (ci - fr)) ∧ Below X.heap.size X w') := fun X hX => reach_ok a ra cap wn rl rc n mc K fr 4 b2 o2 bi oi len ci pc bs kind X (fun Y hY => hft Y (hX.trans (hY.mono hX.size))) (fun Y hY => hat Y (hX.trans (hY.mono hX.size))) (by obtain ⟨b1, o1, e, p⟩ := hba; exact ⟨b1, o1, e, kept_cell hX p⟩) (kept_cell hX hrow) hKw hK hb0 hb1 hin hlc hln (by omega)
  have HB : Hid (Below w.heap.size w _) := hbw
  have HKK : Hid (Bk _ w.heap.size _ ∧ Bk _ (w.heap.size + 1) #[.int .u8 0, .int .u8 0, .int .u8 0, .int .u8 0]) := ⟨B0, B1⟩
  have HQ : Hid (∀ X, Below w.heap.size w X → X.cell? ⟨bi, oi + fr + 0, none⟩ = some (.int .u8 z0) ∧ X.cell? ⟨bi, oi + fr + 1, none⟩ = some (.int .u8 z1) ∧ X.cell? ⟨bi, oi + fr + 2, none⟩ = some (.int .u8 z2) ∧ X.cell? ⟨bi, oi + fr + 3, none⟩ = some (.int .u8 z3)) := fun X hX => ⟨kept_cell hX q0, kept_cell hX q1, kept_cell hX q2, kept_cell hX q3⟩
  have c0 := B0.cell 0 _ rfl
  have c1 := B0.cell 1 _ rfl
  have c2 := B0.cell 2 _ rfl
  clear hbw B0 B1 hft hat hba hrow q0 q1 q2 q3
  go_enter Try.func47, Try.ntmps47
  go_wp2
  go_region_held_law (fun w' => w'.cell? ⟨w.heap.size, 0, none⟩ = some (.slice ra rl rc) ∧ w'.cell? ⟨w.heap.size, 1, none⟩ = some (.int .u32 pc) ∧ w'.cell? ⟨w.heap.size, 2, none⟩ = some (.slice (some ⟨b2, o2, none⟩) n mc)) (first | exact ⟨c0, c1, c2⟩ | exact ⟨st1 (by omega) (st1 (by omega) (st1 (by omega) (st1 (by omega) (c0)))), st1 (by omega) (st1 (by omega) (st1 (by omega) (st1 (by omega) (c1)))), st1 (by omega) (st1 (by omega) (st1 (by omega) (st1 (by omega) (c2))))⟩)
    (first | (go_at_call 38; refine Calls.mono (HRB.out _ (by first | exact HB.out | exact HB.out.drew)) ?_; rintro u w7 ⟨rfl, hb7⟩; have HB7 : Hid (Below w.heap.size w w7) := (by first | exact HB.out.trans (hb7.mono HB.out.size) | exact HB.out.drew.trans (hb7.mono HB.out.drew.size)); have HK7 : Hid (Bk w7 w.heap.size _ ∧ Bk w7 (w.heap.size + 1) #[.int .u8 0, .int .u8 0, .int .u8 0, .int .u8 0]) := (by first | exact ⟨HKK.out.1.below hb7, HKK.out.2.below hb7⟩ | exact ⟨bk_kept hb7 (bk_kept (Below.refl _ _).drew HKK.out.1), bk_kept hb7 (bk_kept (Below.refl _ _).drew HKK.out.2)⟩); replace c0 := HK7.out.1.cell 0 _ rfl; replace c1 := HK7.out.1.cell 1 _ rfl; replace c2 := HK7.out.1.cell 2 _ rfl; clear hb7) | (refine step_copy_cells rfl (.tmp 14) (.tmp 20) 22 22 5 rfl Try.underlying22 infoB1 (w.heap.size + 1) 0 4 4 ⟨bi, oi + fr, none⟩ 4 (ci - fr) rfl rfl [.int .u8 z0, .int .u8 z1, .int .u8 z2, .int .u8 z3] rfl (src4 (HQ.out _ HB7.out)) (room4 HK7.out.2 4 (by omega)) (fun j _ => HK7.out.2.free _) (one_bytes [z0, z1, z2, z3]) (some 21) rfl ?_; simp only [World.setCells, Nat.reduceAdd]))
  have W := ((((HK7.out.2.set 0 (.int .u8 z0) (by simp) rfl).set 1 (.int .u8 z1) (by simp) rfl).set 2 (.int .u8 z2) (by simp) rfl).set 3 (.int .u8 z3) (by simp) rfl)
  have HWD : Hid _ := impl_word (w.heap.size + 1) 0 4 (z0) (z1) (z2) (z3) _ (by omega) (by omega) (by omega) (by omega) (by omega) (by omega) (by omega) (by omega) (W.cell 0 _ rfl) (W.cell 1 _ rfl) (W.cell 2 _ rfl) (W.cell 3 _ rfl)
  have HBW : Hid (Below w.heap.size w ((((w7.setCell ⟨w.heap.size + 1, 0, none⟩ (.int .u8 z0)).setCell ⟨w.heap.size + 1, 1, none⟩ (.int .u8 z1)).setCell ⟨w.heap.size + 1, 2, none⟩ (.int .u8 z2)).setCell ⟨w.heap.size + 1, 3, none⟩ (.int .u8 z3))) := ((((HB7.out.setCell (p := ⟨w.heap.size + 1, 0, none⟩) (by simp) _).setCell (p := ⟨w.heap.size + 1, 1, none⟩) (by simp) _).setCell (p := ⟨w.heap.size + 1, 2, none⟩) (by simp) _).setCell (p := ⟨w.heap.size + 1, 3, none⟩) (by simp) _)
  clear W c0 c1 c2
  simp only [Act.put, List.setIfInBounds_toArray, List.set_cons_zero, List.set_cons_succ]
  go_wp2_with fail
  refine Calls.mono HWD.out ?_
  rintro u w8 ⟨rfl, m8, rfl⟩
  go_wp2
  go_ret
  exact ⟨ret_int (by omega), below_drewN HBW.out _⟩
end Go.Proofs.Ytanffdedignegaa
