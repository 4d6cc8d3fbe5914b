
/-
  The program's queue of words within a block: drop, take. Conditions: at most 8 words, the places behind them zero; no more are dropped than there are.
-/
import Derived.Test.YthfmggfohegpnaaRows
import Derived.Test.YthfmggfohegpnaaDvq
namespace Go.Proofs.Ythfmggfohegpnaa
open Go.ChangeShapes Go.WideShapes Go.ChangeAt Go.RowKit Go.Deep
set_option linter.unusedVariables false

theorem row_betw {w : World} {B : Nat} (cs : Array Value) : Betw B (B + 1) w (w.setRow B cs) :=
  ⟨rfl, rfl, rfl, by simp, fun k _ ho => setRow_other w B k cs (by omega)⟩
/-- A copy into a block, at a step of a region that draws its order. -/
theorem step_copy_q {ops : Array Oper} {o : Oper} {a : Act} {w : World} {K : Act → World → Prop} {Q : Exit → Act → World → Prop} {E : Prop} (hgd : o.guard = none) (d s : Operand) (dT sT : TypeId)
    (ho : o.op = .call { callee := .builtin .copy, args := #[d, s], argTypes := #[dT, sT] }) (elem : TypeId) (hu : Try.prog.underlying dT = some (.slice elem)) (hsz : (Try.prog.info? elem).map (·.size) = some 1)
    (dp sp : Option Addr) (dLen dCap sLen sCap : Nat) (hd : a.eval d = .slice dp dLen dCap) (hs : a.eval s = .slice sp sLen sCap)
    (g off : Nat) (cur : List Value) (t : TypeId) (hg : Row w g t cur) (cs : List Value) (N : Nat) (hN : cs.length = N) (hn : N = Nat.min sLen dLen)
    (hpos : 0 < N → dp = some ⟨g, off, none⟩ ∧ ∃ ad, sp = some ad ∧ ∀ j v, cs[j]? = some v → w.cell? (ad.add j) = some v)
    (hfit : off + N ≤ cur.length) (h1 : ∀ v ∈ cs, v.oneCell' = true)
    (h : ∀ w', Row w' g t (splice cur off cs) → Betw g (g + 1) w w' → K (a.put o.dst (goInt N)) w') :
    if Region.wanted o (yielded ops a.tmps) = true then Oper.wp Try.prog o a w K Q else E := by
  have hw : Region.wanted o (yielded ops a.tmps) = true := by simp [Region.wanted, hgd]
  subst hN
  rw [if_pos hw]
  by_cases h0 : cs.length = 0
  · obtain rfl : cs = [] := List.eq_nil_of_length_eq_zero h0
    have hrun := run_copy_none (P := Try.prog) w dT sT o.type elem dp sp dLen dCap sLen sCap hu hsz (by simpa using hn.symm)
    unfold Oper.wp
    simp [execOp, ho, resolve, invoke, builtin, hd, hs, hrun, Result.andThen]
    exact h w (by simpa [splice] using hg) (Betw.refl _ _ _)
  · obtain ⟨rfl, ad, rfl, hsrc⟩ := hpos (by omega)
    have hrun := run_copy_row (P := Try.prog) w dT sT o.type elem g off dLen dCap ad sLen sCap cur.toArray t cs hu hsz hg hn hsrc (by simpa using hfit) h1
    unfold Oper.wp
    simp [execOp, ho, resolve, invoke, builtin, hd, hs, hrun, Result.andThen]
    refine h _ ?_ (row_betw _)
    show _ = _
    simpa [splice] using setRow_heap w g _ _ t _ hg
/-- What is laid from a place on. -/
def laid (cur : List Value) : Nat → List Value → List Value
  | _, [] => cur
  | o, v :: r => laid (cur.set o v) (o + 1) r
theorem laid_len (vs : List Value) : ∀ (cur : List Value) (o : Nat), (laid cur o vs).length = cur.length := by
  induction vs with
  | nil => intro cur o; rfl
  | cons v r ih => intro cur o; simp only [laid]; rw [ih]; simp
theorem laid_out (vs : List Value) : ∀ (cur : List Value) (o i : Nat), (i < o ∨ o + vs.length ≤ i) → (laid cur o vs)[i]? = cur[i]? := by
  induction vs with
  | nil => intro cur o i _; rfl
  | cons v r ih =>
    intro cur o i h
    simp only [List.length_cons] at h
    simp only [laid]
    rw [ih _ _ _ (by omega), List.getElem?_set_ne (by omega)]
theorem laid_in (vs : List Value) : ∀ (cur : List Value) (o i : Nat), i < vs.length → o + vs.length ≤ cur.length → (laid cur o vs)[o + i]? = vs[i]? := by
  induction vs with
  | nil => intro cur o i h; simp at h
  | cons v r ih =>
    intro cur o i h hc
    simp only [List.length_cons] at h hc
    simp only [laid]
    cases i with
    | zero => rw [laid_out r _ _ _ (by omega), Nat.add_zero, List.getElem?_set_self (by omega)]; simp
    | succ i =>
      have := ih (cur.set o v) (o + 1) i (by omega) (by simp; omega)
      rw [show o + (i + 1) = o + 1 + i by omega, this]
      simp
theorem Row.laid {B : Nat} {T : TypeId} (vs : List Value) : ∀ {w : World} {cur : List Value} (o : Nat), Row w B T cur → Row (w.setCells B o vs) B T (laid cur o vs) ∧ Betw B (B + 1) w (w.setCells B o vs) := by
  induction vs with
  | nil => intro w cur o h; exact ⟨h, Betw.refl _ _ _⟩
  | cons v r ih =>
    intro w cur o h
    have h1 := ih (o + 1) (h.set o v)
    exact ⟨h1.1, ((Betw.refl _ _ w).setCell (p := ⟨B, o, none⟩) (Nat.le_refl _) (by simp) _).trans h1.2⟩
theorem zeroU (w : World) : (zeroValue 31).run Try.prog w = .ok (.int .u32 0) w := by kernel_rfl
/-- A clear of a part of a block, at a step of a region that draws its order. -/
theorem step_clear_q {ops : Array Oper} {o : Oper} {a : Act} {w : World} {K : Act → World → Prop} {Q : Exit → Act → World → Prop} {E : Prop} (hgd : o.guard = none) (s : Operand)
    (ho : o.op = .call { callee := .builtin .clear, args := #[s], argTypes := #[22] }) (p : Option Addr) (n c : Nat) (hs : a.eval s = .slice p n c)
    (B off : Nat) (cur : List Value) (T : TypeId) (hg : Row w B T cur) (hpos : 0 < n → p = some ⟨B, off, none⟩) (hfit : off + n ≤ cur.length)
    (h : ∀ w', Row w' B T (laid cur off (List.replicate n (.int .u32 0))) → Betw B (B + 1) w w' → K (a.put o.dst (.tuple #[])) w') :
    if Region.wanted o (yielded ops a.tmps) = true then Oper.wp Try.prog o a w K Q else E := by
  have hw : Region.wanted o (yielded ops a.tmps) = true := by simp [Region.wanted, hgd]
  rw [if_pos hw]
  by_cases h0 : n = 0
  · subst h0
    have hrun : (Builtin.clear_ #[22] o.type #[.slice p 0 c]).run Try.prog w = .ok (.tuple #[]) w := by
      cases p <;> simp [Builtin.clear_, run_underlying Try.underlying22]
    unfold Oper.wp
    simp [execOp, ho, resolve, invoke, builtin, hs, hrun, Result.andThen]
    exact h w hg (Betw.refl _ _ _)
  · obtain rfl := hpos (by omega)
    have hrun := Lib.run_clear_slice (P := Try.prog) w 22 31 o.type (.int .u32 0) Try.underlying22 zeroU rfl rfl B off n c (by omega) (fun j hj => by rw [hg.cell, List.getElem?_eq_getElem (by omega)]; rfl) (fun j hj => hg.free _)
    unfold Oper.wp
    simp [execOp, ho, resolve, invoke, builtin, hs, hrun, Result.andThen]
    have hl := hg.laid (List.replicate n (.int .u32 0)) off
    exact h _ hl.1 hl.2
set_option maxRecDepth 20000 in
theorem slice_from (B off N F : Nat) (hF : F ≤ N) (hN : N ≤ 8) : ∃ aS, (∀ w : World, (Instr.slice 22 (.slice (some ⟨B, off, none⟩) N 8) (some (.int .i64 (F : Int))) none none).run Try.prog w = .ok (.slice aS (N - F) (8 - F)) w) ∧ (0 < N - F → aS = some ⟨B, off + F, none⟩) := by
  have e : ∀ w, (sizeOf (Try.prog.elem 22)).run Try.prog w = .ok 1 w := fun w => by kernel_rfl
  by_cases h8 : F = 8
  · subst h8
    refine ⟨some ⟨B, off, none⟩, fun w => ?_, fun h => by omega⟩
    rw [run_slice_l w 22 (some ⟨B, off, none⟩) N 8 Try.underlying22 .i64 _ (by omega) (by omega)]
    simp [e, sliced]
  · refine ⟨some ⟨B, off + F, none⟩, fun w => ?_, fun _ => rfl⟩
    rw [run_slice_l w 22 (some ⟨B, off, none⟩) N 8 Try.underlying22 .i64 _ (by omega) (by omega)]
    have h8' : ¬ (8 = F) := by omega
    by_cases h0 : F = 0
    · subst h0; simp [e, sliced, Addr.add]
    · simp [e, sliced, Addr.add, h8', h0]
set_option maxRecDepth 20000 in
theorem sliceAt_from (B off C : Nat) (hC : C ≤ 8) : ∃ aC, (∀ w : World, (Instr.sliceAt 61 (.pointer (some ⟨B, off, none⟩)) (some (.int .i64 (C : Int))) none none).run Try.prog w = .ok (.slice aC (8 - C) (8 - C)) w) ∧ (0 < 8 - C → aC = some ⟨B, off + C, none⟩) := by
  have e : ∀ w, (sizeOf (Try.prog.elem 61)).run Try.prog w = .ok 1 w := fun w => by kernel_rfl
  have ht : Try.prog.underlying 61 = some (.array (Try.prog.arrayLen 61) (Try.prog.elem 61)) := by kernel_rfl
  have h8 : Try.prog.arrayLen 61 = 8 := by kernel_rfl
  by_cases h0 : C = 8
  · subst h0
    refine ⟨some ⟨B, off, none⟩, fun w => ?_, fun h => by omega⟩
    rw [run_sliceAt_array_l w 61 ⟨B, off, none⟩ ht .i64 _ (by omega) (by rw [h8]; omega)]
    simp [e, slicedAt, h8]
  · refine ⟨some ⟨B, off + C, none⟩, fun w => ?_, fun _ => rfl⟩
    rw [run_sliceAt_array_l w 61 ⟨B, off, none⟩ ht .i64 _ (by omega) (by rw [h8]; omega)]
    have h8' : ¬ (8 = C) := by omega
    by_cases h1 : C = 0
    · subst h1; simp [e, slicedAt, Addr.add, h8]
    · simp [e, slicedAt, Addr.add, h8, h8', h1]
theorem Qat.dropped {cur : List Value} {off : Nat} {zs : List Int} {F C : Nat} (h : Qat cur off zs) (hF : F ≤ zs.length) (hC : zs.length - F = C) :
    Qat (laid ((splice cur off ((zs.drop F).map (Value.int .u32))).set (off + 8) (.int .i64 (C : Int))) (off + C) (List.replicate (8 - C) (.int .u32 0))) off (zs.drop F) ∧
    (laid ((splice cur off ((zs.drop F).map (Value.int .u32))).set (off + 8) (.int .i64 (C : Int))) (off + C) (List.replicate (8 - C) (.int .u32 0))).length = cur.length ∧
    ∀ i, i < off ∨ off + 9 ≤ i → (laid ((splice cur off ((zs.drop F).map (Value.int .u32))).set (off + 8) (.int .i64 (C : Int))) (off + C) (List.replicate (8 - C) (.int .u32 0)))[i]? = cur[i]? := by
  have hcp := h.cap
  have hl8 := h.len
  have hXL : ((zs.drop F).map (Value.int .u32)).length = C := by simp; omega
  have hsl : (splice cur off ((zs.drop F).map (Value.int .u32))).length = cur.length := length_splice _ _ _ (by rw [hXL]; omega)
  have hout : ∀ i, i < off ∨ off + C ≤ i → (splice cur off ((zs.drop F).map (Value.int .u32)))[i]? = cur[i]? := fun i hi => by
    unfold splice
    rcases hi with hi | hi
    · rw [List.getElem?_append_left (by simp; omega), List.getElem?_take, if_pos hi]
    · rw [List.getElem?_append_right (by simp; omega), List.getElem?_append_right (by simp; omega), List.getElem?_drop]
      congr 1
      simp
      omega
  have hin : ∀ i, i < C → (splice cur off ((zs.drop F).map (Value.int .u32)))[off + i]? = some (.int .u32 ((zs.drop F).getD i 0)) := fun i hi => by
    unfold splice
    rw [List.getElem?_append_right (by simp; omega), List.getElem?_append_left (by simp; omega)]
    have e1 : off + i - (cur.take off).length = i := by simp; omega
    rw [e1, List.getElem?_map, List.getElem?_eq_getElem (by simp; omega)]
    simp [List.getD, List.getElem?_eq_getElem (show F + i < zs.length by omega)]
  refine ⟨⟨by simp; omega, fun i hi => ?_, ?_⟩, by rw [laid_len, List.length_set, hsl], fun i hi => ?_⟩
  · by_cases hiC : i < C
    · rw [laid_out _ _ _ _ (by omega), List.getElem?_set_ne (by omega), hin i hiC]
    · have := laid_in (List.replicate (8 - C) (Value.int .u32 0)) ((splice cur off ((zs.drop F).map (Value.int .u32))).set (off + 8) (.int .i64 (C : Int))) (off + C) (i - C) (by simp; omega) (by rw [List.length_set, hsl, List.length_replicate]; omega)
      rw [show off + C + (i - C) = off + i by omega] at this
      rw [this, List.getElem?_replicate, if_pos (by omega)]
      simp only [List.getD]
      rw [List.getElem?_eq_none (by simp; omega)]
      rfl
  · rw [laid_out _ _ _ _ (by simp; omega), List.getElem?_set_self (by rw [hsl]; omega)]
    simp only [List.length_drop, hC]
  · rw [laid_out _ _ _ _ (by simp; omega), List.getElem?_set_ne (by omega), hout i (by omega)]
theorem us_one' (zs : List Int) : ∀ u ∈ zs.map (Value.int .u32), u.oneCell' = true := us_one zs
set_option maxRecDepth 20000 in
set_option maxHeartbeats 2000000 in
theorem impl_drop (B off : Nat) (T : TypeId) (cur : List Value) (zs : List Int) (F : Nat) (w : World) (hr : Row w B T cur) (hq : Qat cur off zs) (hF : F ≤ zs.length) :
    Calls Try.prog 66 #[.pointer (some ⟨B, off, none⟩), .int .i64 (F : Int)] w fun e w' => (∃ v, e = .returned v) ∧ Qto w w' B T cur off (zs.drop F) := by
  obtain ⟨N, HL⟩ : ∃ n, Hid (zs.length = n) := ⟨_, rfl⟩
  obtain ⟨C, HC⟩ : ∃ C, Hid (N - F = C) := ⟨_, rfl⟩
  have hN8 : N ≤ 8 := by have := hq.len; have := HL.out; omega
  have hFN : F ≤ N := by have := HL.out; omega
  have hC8 : C ≤ 8 := by have := HC.out; omega
  obtain ⟨aS, hsl, hsa⟩ := slice_from B off N F hFN hN8
  rw [HC.out] at hsl hsa
  have HSA : Hid (0 < C → aS = some ⟨B, off + F, none⟩) := hsa
  have HR : Hid (Row w B T cur) := hr
  have HQ : Hid (Qat cur off zs) := hq
  have HE : Hid (∀ X : World, Row X B T cur → Calls Try.prog 60 #[.pointer (some ⟨B, off, none⟩)] X fun e w' => e = .returned (.slice (some ⟨B, off, none⟩) N 8) ∧ Below X.heap.size X w' ∧ w'.heap = X.heap) := fun X hX => impl_held B off T cur zs N X hX HQ.out HL.out
  obtain ⟨XS, HX⟩ : ∃ XS, Hid (XS = (zs.drop F).map (Value.int .u32)) := ⟨_, rfl⟩
  have HXL : Hid (XS.length = C) := (show XS.length = C by rw [HX.out, ← HC.out]; simp [HL.out])
  have HXS : Hid (0 < C → ∀ X : World, Row X B T cur → ∃ ad, aS = some ad ∧ ∀ j v, XS[j]? = some v → X.cell? (ad.add j) = some v) := fun h0 X hX => by
    refine ⟨⟨B, off + F, none⟩, HSA.out h0, fun j v e => ?_⟩
    rw [add_plain, hX.cell]
    rw [HX.out, List.getElem?_map] at e
    obtain ⟨z, hz, rfl⟩ := Option.map_eq_some_iff.1 e
    rw [List.getElem?_drop] at hz
    have hj : F + j < zs.length := by
      rcases Nat.lt_or_ge (F + j) zs.length with g | g
      · exact g
      · rw [List.getElem?_eq_none g] at hz; cases hz
    have := HQ.out.at_ (F + j) (by have := HL.out; omega)
    rw [show off + F + j = off + (F + j) by omega, this]
    simp [List.getD, hz]
  have HFT : Hid (off + C ≤ cur.length ∧ off + 9 ≤ cur.length) := ⟨by have := HQ.out.cap; omega, HQ.out.cap⟩
  have HMN : Hid (C = Nat.min C 8) := (show C = Nat.min C 8 from (Nat.min_eq_left hC8).symm)
  clear hr hq hsa
  go_enter Try.func66, Try.ntmps66
  go_wp2
  have hb : Below w.heap.size w w ∧ w.heap = w.heap := ⟨Below.refl _ _, rfl⟩
  go_region_held_law (fun w' => True) (exact True.intro) (first
    | (go_at_call 60; refine Calls.mono (HE.out _ (HR.out.heap (by first | exact hb.2 | rfl))) ?_; rintro u w3 ⟨rfl, hbb, hhe⟩; have HR3 : Hid (Row w3 B T cur) := HR.out.heap (hhe.trans (by first | exact hb.2 | rfl)); have HB3 : Hid (Below w.heap.size w w3) := (by first | exact hbb | exact ((Below.refl _ w).drew).trans (hbb.mono (Nat.le_refl _))); clear hbb hhe hb)
    | (refine step_copy_q rfl (.tmp 8) (.tmp 12) 22 22 rfl 31 Try.underlying22 infoU1 (some ⟨B, off, none⟩) aS 8 8 C (8 - F) rfl rfl B off cur T (by first | exact HR3.out | exact HR3.out.heap rfl) XS C HXL.out HMN.out (fun h0 => ⟨rfl, by first | exact HXS.out h0 _ HR3.out | exact HXS.out h0 _ (HR3.out.heap rfl)⟩) HFT.out.1 (by rw [HX.out]; exact us_one _) ?_; intro w4 hr4 hb4; have HR4 : Hid (Row w4 B T (splice cur off XS)) := hr4; have HB4 : Hid (Betw B (B + 1) w w4) := (by first | exact (Below.betw HB3.out).trans hb4 | exact ((Below.betw HB3.out).trans (Below.betw (Below.refl _ _).drew)).trans hb4); have hf4 := hr4.free; have hcc : w4.cell? ⟨B, off + 8, none⟩ = some (splice cur off XS)[off + 8]! := (by rw [hr4.cell]; have h1 := HFT.out; have h2 := HXL.out; rw [List.getElem?_eq_getElem (by rw [length_splice _ _ _ (by omega)]; omega)]; simp [getElem!_def, List.getElem?_eq_getElem (show off + 8 < (splice cur off XS).length by rw [length_splice _ _ _ (by omega)]; omega)]); clear hr4 hb4))
  all_goals
    have hrY : Row (w4.setCell ⟨B, off + 8, none⟩ (.int .i64 (C : Int))) B T ((splice cur off XS).set (off + 8) (.int .i64 (C : Int))) := HR4.out.set _ _
    have hbY : Betw B (B + 1) w (w4.setCell ⟨B, off + 8, none⟩ (.int .i64 (C : Int))) := HB4.out.trans ((Betw.refl _ _ w4).setCell (p := ⟨B, off + 8, none⟩) (Nat.le_refl _) (by simp) _)
    have hcY : (w4.setCell ⟨B, off + 8, none⟩ (.int .i64 (C : Int))).cell? ⟨B, off + 8, none⟩ = some (.int .i64 (C : Int)) := World.cell?_setCell_same _ _ _ hcc
    rename_i hhh
    clear hhh
    clear hf4 hcc hsl
    revert hrY hbY hcY
    generalize w4.setCell ⟨B, off + 8, none⟩ (.int .i64 (C : Int)) = Y
    intro hrY hbY hcY
    have HRY : Hid (Row Y B T ((splice cur off XS).set (off + 8) (.int .i64 (C : Int)))) := hrY
    have HBY : Hid (Betw B (B + 1) w Y) := hbY
    clear hrY hbY HR4 HB4 HR3 HB3 HE HXS HMN HSA
    obtain ⟨aC, hsl2, hsa2⟩ := sliceAt_from B off C hC8
    have HSA2 : Hid (0 < 8 - C → aC = some ⟨B, off + C, none⟩) := hsa2
    clear hsa2
    have HF2 : Hid (off + C + (8 - C) ≤ ((splice cur off XS).set (off + 8) (.int .i64 (C : Int))).length) := (show off + C + (8 - C) ≤ ((splice cur off XS).set (off + 8) (.int .i64 (C : Int))).length by have h1 := HFT.out; have h2 := HXL.out; rw [List.length_set, length_splice _ _ _ (by omega)]; omega)
    go_wp2
    go_region_held_law (fun w' => w'.cell? ⟨B, off + 8, none⟩ = some (.int .i64 (C : Int))) (first | with_reducible exact hcY | with_reducible exact dr_c hcY) (first
      | (refine step_clear_q rfl (.tmp 23) rfl aC (8 - C) (8 - C) rfl B (off + C) ((splice cur off XS).set (off + 8) (.int .i64 (C : Int))) T (by first | exact HRY.out | exact HRY.out.heap rfl) HSA2.out HF2.out ?_; intro w6 hr6 hb6; have HR6 : Hid (Row w6 B T (laid ((splice cur off XS).set (off + 8) (.int .i64 (C : Int))) (off + C) (List.replicate (8 - C) (.int .u32 0)))) := hr6; have HB6 : Hid (Betw B (B + 1) w w6) := (by first | exact HBY.out.trans hb6 | exact (HBY.out.trans (Below.betw (Below.refl _ _).drew)).trans hb6); replace hcY : w6.cell? ⟨B, off + 8, none⟩ = some (.int .i64 (C : Int)) := (by rw [hr6.cell, laid_out _ _ _ _ (by simp; omega), List.getElem?_set_self (by have h1 := HFT.out; have h2 := HXL.out; rw [length_splice _ _ _ (by omega)]; omega)]); clear hr6 hb6))
    all_goals
      rename_i hhh
      clear hhh
      go_wp2
      go_end0
      have hdr := HQ.out.dropped (F := F) (C := C) hF (by rw [HL.out]; exact HC.out)
      rw [← HX.out] at hdr
      exact ⟨⟨_, rfl⟩, _, HR6.out, hdr.1, hdr.2.1, hdr.2.2, HB6.out⟩
set_option maxRecDepth 20000 in
set_option maxHeartbeats 2000000 in
theorem impl_take (B off : Nat) (T : TypeId) (cur : List Value) (zs : List Int) (w : World) (hr : Row w B T cur) (hq : Qat cur off zs) :
    Calls Try.prog 62 #[.pointer (some ⟨B, off, none⟩)] w fun e w' => e = .returned (.tuple #[.int .u32 (zs.getD 0 0), .bool (decide (0 < zs.length))]) ∧ Qto w w' B T cur off (zs.drop 1) := by
  obtain ⟨n, HL⟩ : ∃ n, Hid (zs.length = n) := ⟨_, rfl⟩
  obtain ⟨z, HZ⟩ : ∃ z, Hid (zs.getD 0 0 = z) := ⟨_, rfl⟩
  obtain ⟨F, HF⟩ : ∃ F : Nat, Hid (F = min n 1) := ⟨_, rfl⟩
  have hn8 : n ≤ 8 := by have := hq.len; have := HL.out; omega
  have hc : w.cell? ⟨B, off + 8, none⟩ = some (.int .i64 (n : Int)) := by rw [hr.cell, hq.cnt, HL.out]
  have hz : w.cell? ⟨B, off, none⟩ = some (.int .u32 z) := by rw [hr.cell]; have := hq.at_ 0 (by omega); rw [Nat.add_zero] at this; rw [this, HZ.out]
  have HR : Hid (Row w B T cur) := hr
  have HD : Hid (∀ (X : World) (Fi : Int), X.heap = w.heap → Betw B (B + 1) w X → Fi = (F : Int) → Calls Try.prog 66 #[.pointer (some ⟨B, off, none⟩), .int .i64 Fi] X fun e w' => (∃ v, e = .returned v) ∧ Qto w w' B T cur off (zs.drop 1)) := fun X Fi hX hbX hFi => by
    subst hFi
    have h2 : zs.drop F = zs.drop 1 := by
      rw [HF.out]
      by_cases h0 : n = 0
      · have : zs = [] := List.eq_nil_of_length_eq_zero (by rw [HL.out]; exact h0)
        rw [this]; simp
      · rw [Nat.min_eq_right (by omega)]
    refine (impl_drop B off T cur zs F X (hr.heap hX) hq (by rw [HF.out, HL.out]; omega)).mono ?_
    rintro e w' ⟨hv, cur', g1, g2, g3, g4, g5⟩
    rw [h2] at g2
    exact ⟨hv, cur', g1, g2, g3, g4, hbX.trans g5⟩
  rw [HZ.out, HL.out]
  clear hr hq
  by_cases h0 : n = 0
  · have hF0 : Hid ((0 : Int) = (F : Int)) := (show (0 : Int) = (F : Int) by rw [HF.out]; omega)
    subst h0
    go_enter Try.func62, Try.ntmps62
    go_wp2
    go_quiet (fail)
    clear hz
    go_wp2_with fail
    refine (HD.out (w.drewN nq) _ rfl (Below.betw (below_drewN (Below.refl _ _) _)) hF0.out).mono ?_
    rintro u w2 ⟨⟨v, rfl⟩, hq2⟩
    have HQ2 : Hid (Qto w w2 B T cur off (zs.drop 1)) := hq2
    clear hq2 HD
    go_wp2
    exact bodyPost_ret (v := .tuple #[.int .u32 z, .bool false]) (by simp [results, Try.results62, go_sem]) rfl ⟨rfl, HQ2.out⟩
  by_cases h1 : n = 1
  · have hF0 : Hid ((1 : Int) = (F : Int)) := (show (1 : Int) = (F : Int) by rw [HF.out]; omega)
    subst h1
    clear h0
    go_enter Try.func62, Try.ntmps62
    go_wp2
    go_quiet (fail)
    clear hz
    go_wp2_with fail
    refine (HD.out (w.drewN nq) _ rfl (Below.betw (below_drewN (Below.refl _ _) _)) hF0.out).mono ?_
    rintro u w2 ⟨⟨v, rfl⟩, hq2⟩
    have HQ2 : Hid (Qto w w2 B T cur off (zs.drop 1)) := hq2
    clear hq2 HD
    go_wp2
    exact bodyPost_ret (v := .tuple #[.int .u32 z, .bool true]) (by simp [results, Try.results62, go_sem]) rfl ⟨rfl, HQ2.out⟩
  · have hF0 : Hid ((1 : Int) = (F : Int)) := (show (1 : Int) = (F : Int) by rw [HF.out]; omega)
    have h0' : (0 : Int) < (n : Int) := by omega
    have h1' : ¬ ((n : Int) < 1) := by omega
    have h2' : (1 : Int) < (n : Int) := by omega
    go_enter Try.func62, Try.ntmps62
    go_wp2
    go_quiet (fail)
    clear hz
    go_wp2_with fail
    refine (HD.out (w.drewN nq) _ rfl (Below.betw (below_drewN (Below.refl _ _) _)) hF0.out).mono ?_
    rintro u w2 ⟨⟨v, rfl⟩, hq2⟩
    have HQ2 : Hid (Qto w w2 B T cur off (zs.drop 1)) := hq2
    clear hq2 HD
    go_wp2
    exact bodyPost_ret (v := .tuple #[.int .u32 z, .bool (decide (0 < n))]) (by simp [results, Try.results62, go_sem]) rfl ⟨rfl, HQ2.out⟩
end Go.Proofs.Ythfmggfohegpnaa
