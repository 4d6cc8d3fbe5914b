
/-
  Bytes copied into a row; a row cut from a place on. No function of the program in sight but its types; no conditions but those that each fact names.
-/
import Derived.Test.YtdmlgnmklnaehaaGreatDoorBas
import Derived.Test.YtdmlgnmklnaehaaGreatDoorLds
import Derived.Laws.IdiomCopy
import Derived.Laws.CopyRow
import Derived.Laws.CopyOwn
namespace Go.Proofs.YtdmlgnmklnaehaaGreatDoor
open Go.ChangeShapes Go.WideShapes Go.ChangeAt Go.RowKit Go.Deep Go.Joins
set_option linter.unusedVariables false
set_option maxRecDepth 20000

theorem row_c {w : World} {B : Nat} {cs : Array Value} {ty : TypeId} (h : w.heap[B]? = some (.cells cs ty (0, 0))) (j : Nat) (v : Value) (hj : cs[j]? = some v) : w.cell? ⟨B, j, none⟩ = some v := by simp [World.cell?, h, hj]
theorem slice_from (b o k n cap : Nat) (h : k ≤ n) (hc : k < cap) (w : World) : (Instr.slice 82 (.slice (some ⟨b, o, none⟩) n cap) (some (.int .i64 (k : Int))) none none).run Tryz.prog w = .ok (.slice (some ⟨b, o + k, none⟩) (n - k) (cap - k)) w := by
  rw [run_slice_l w 82 _ n cap Tryz.underlying82 .i64 (k : Int) (by omega) (by omega)]
  have e : ∀ w, (sizeOf (Tryz.prog.elem 82)).run Tryz.prog w = .ok 1 w := fun w => by kernel_rfl
  rw [e]
  simp only [Result.andThen, sliced, Int.toNat_natCast]
  have hk : ¬ cap = k := by omega
  simp [Addr.add, hk]
  try omega
theorem betw_setCells (R : Nat) : ∀ (vs : List Value) (o : Nat) (w : World), Betw R (R + 1) w (w.setCells R o vs)
  | [], _, w => Betw.refl _ _ _
  | v :: r, o, w => by
    have h1 : Betw R (R + 1) w (w.setCell ⟨R, o, none⟩ v) := (Betw.refl _ _ _).setCell (p := ⟨R, o, none⟩) (Nat.le_refl _) (Nat.lt_succ_self _) _
    exact h1.trans (betw_setCells R r (o + 1) _)
theorem frozen_setCells (R : Nat) : ∀ (vs : List Value) (o : Nat) (w : World) (j : Nat), (w.setCells R o vs).frozen? ⟨R, j, none⟩ = w.frozen? ⟨R, j, none⟩
  | [], _, _, _ => rfl
  | v :: r, o, w, j => by
    rw [World.setCells, frozen_setCells R r (o + 1), World.frozen?_setCell]
theorem size_setCells (R : Nat) : ∀ (vs : List Value) (o : Nat) (w : World), (w.setCells R o vs).heap.size = w.heap.size
  | [], _, _ => rfl
  | v :: r, o, w => by
    rw [World.setCells, size_setCells R r (o + 1)]
    simp
/-- A row of bytes with some of them replaced. -/
theorem on_copy {w : World} {lo hi R off p : Nat} {ws bs : List Int} (h : ON .u8 w lo hi (some ⟨R, off, none⟩) ws R) (hp : p + bs.length ≤ ws.length) (h0 : 0 < ws.length) :
    ON .u8 (w.setCells R (off + p) (bs.map (Value.int .u8))) lo hi (some ⟨R, off, none⟩) (ws.take p ++ bs ++ ws.drop (p + bs.length)) R := by
  intro _
  obtain ⟨off', e, h1, h2, h3, hc, hf⟩ := h h0
  cases e
  refine ⟨off, rfl, h1, h2, by rw [size_setCells]; exact h3, fun i hi => ?_, fun j => by rw [frozen_setCells]; exact hf j⟩
  have hlen : (ws.take p ++ bs ++ ws.drop (p + bs.length)).length = ws.length := by
    rw [List.length_append, List.length_append, List.length_take, List.length_drop]
    omega
  rw [hlen] at hi
  by_cases c1 : p ≤ i ∧ i < p + bs.length
  · have hin := World.cell?_setCells_in R (bs.map (Value.int .u8)) (off + p) w (fun j hj => by
      rw [List.length_map] at hj
      rw [Nat.add_assoc, hc (p + j) (by omega)]
      rfl) (i - p) (by rw [List.length_map]; omega)
    rw [show off + p + (i - p) = off + i by omega] at hin
    rw [hin]
    have hb : i - p < bs.length := by omega
    have hlt : (ws.take p).length = p := by rw [List.length_take]; omega
    have e2 : (ws.take p ++ bs ++ ws.drop (p + bs.length)).getD i 0 = bs[i - p] := by
      rw [List.getD_eq_getElem?_getD, List.getElem?_append_left (by rw [List.length_append, hlt]; omega), List.getElem?_append_right (by rw [hlt]; omega), hlt, List.getElem?_eq_getElem hb]
      rfl
    rw [e2]
    simp
  · rw [World.cell?_setCells_out R (bs.map (Value.int .u8)) (off + p) w ⟨R, off + i, none⟩ (fun _ _ => by
      rw [List.length_map]
      show off + i < off + p ∨ off + p + bs.length ≤ off + i
      omega), hc i hi]
    have hlt : (ws.take p).length = p := by rw [List.length_take]; omega
    have e2 : (ws.take p ++ bs ++ ws.drop (p + bs.length)).getD i 0 = ws.getD i 0 := by
      rw [List.getD_eq_getElem?_getD, List.getD_eq_getElem?_getD]
      by_cases c2 : i < p
      · rw [List.getElem?_append_left (by rw [List.length_append, hlt]; omega), List.getElem?_append_left (by rw [hlt]; omega), List.getElem?_take, if_pos c2]
      · rw [List.getElem?_append_right (by rw [List.length_append, hlt]; omega), List.length_append, hlt, List.getElem?_drop]
        congr 2
        omega
    rw [e2]
theorem step_copy_run {P : Program} {ops : Array Oper} {o : Oper} {a : Act} {w : World} {K : Act → World → Prop} {Q : Exit → Act → World → Prop} {E : Prop} (hgd : o.guard = none) (d s : Operand) (dT sT : TypeId)
    (ho : o.op = .call { callee := .builtin .copy, args := #[d, s], argTypes := #[dT, sT] }) (vd vs r : Value) (w9 : World) (hd : a.eval d = vd) (hs : a.eval s = vs)
    (hrun : (Builtin.copy_ #[dT, sT] o.type #[vd, vs]).run P w = .ok r w9) (h : K (a.put o.dst r) w9) :
    if Region.wanted o (yielded ops a.tmps) = true then Oper.wp P o a w K Q else E := by
  have hw : Region.wanted o (yielded ops a.tmps) = true := by simp [Region.wanted, hgd]
  rw [if_pos hw]
  unfold Oper.wp
  simp [execOp, ho, resolve, invoke, builtin, hd, hs, hrun, Result.andThen]
  exact h
theorem wanted_of {o : Oper} {ys : Nat → Option Bool} (h : o.guard = none) : Region.wanted o ys = true := by simp [Region.wanted, h]
theorem step_copy_wp {P : Program} {o : Oper} {a : Act} {w : World} {K : Act → World → Prop} {Q : Exit → Act → World → Prop} (d s : Operand) (dT sT : TypeId)
    (ho : o.op = .call { callee := .builtin .copy, args := #[d, s], argTypes := #[dT, sT] }) (vd vs r : Value) (w9 : World) (hd : a.eval d = vd) (hs : a.eval s = vs)
    (hrun : (Builtin.copy_ #[dT, sT] o.type #[vd, vs]).run P w = .ok r w9) (h : K (a.put o.dst r) w9) : Oper.wp P o a w K Q := by
  unfold Oper.wp
  simp [execOp, ho, resolve, invoke, builtin, hd, hs, hrun, Result.andThen]
  exact h
theorem copy_bytes (w : World) (Rh p n c N : Nat) (zq : Int) (hn : 4 ≤ n) (how : Own .u8 w N (Wd.bytes zq)) (hc : ∀ j, j < 4 → ∃ v, w.cell? ⟨Rh, p + j, none⟩ = some v) (hf : ∀ j, w.frozen? ⟨Rh, j, none⟩ = false) :
    (Builtin.copy_ #[82, 82] 3 #[.slice (some ⟨Rh, p, none⟩) n c, .slice (some ⟨N, 0, none⟩) 4 4]).run Tryz.prog w = .ok (.int .i64 4) (w.setCells Rh p ((Wd.bytes zq).map (Value.int .u8))) := by
  have hl : ((Wd.bytes zq).map (Value.int .u8)).length = 4 := rfl
  have h4 : (Wd.bytes zq).length = 4 := rfl
  have h := run_copy_cells (P := Tryz.prog) w 82 82 3 5 Rh p n c ⟨N, 0, none⟩ 4 4 ((Wd.bytes zq).map (Value.int .u8)) Tryz.underlying82 (by kernel_rfl)
    (by rw [hl]; exact (Nat.min_eq_left hn).symm)
    (fun j v hj => by
      have hj4 : j < (Wd.bytes zq).length := by
        rcases Nat.lt_or_ge j (Wd.bytes zq).length with g | g
        · exact g
        · rw [List.getElem?_eq_none (by rw [List.length_map]; exact g)] at hj; cases hj
      rw [List.getElem?_map, List.getElem?_eq_getElem hj4] at hj
      cases hj
      have h2 := how.cell j hj4
      have h3 : (⟨N, 0, none⟩ : Addr).add j = ⟨N, j, none⟩ := by
        by_cases h0 : j = 0
        · subst h0; simp [Addr.add]
        · simp [Addr.add, h0]
      rw [h3, h2]
      simp [List.getD, hj4])
    (fun j hj => by
      rw [hl] at hj
      obtain ⟨v, hv⟩ := hc j hj
      rw [hv]
      rfl)
    (fun j hj => hf _)
    (fun v hv => by
      rw [List.mem_map] at hv
      obtain ⟨z, _, rfl⟩ := hv
      rfl)
  rw [hl] at h
  exact h
end Go.Proofs.YtdmlgnmklnaehaaGreatDoor
