
/-
  What the program loads from a guest's memory: the word that lies there. Conditions: the guest is right for its windows, nothing stands against the access.
-/
import Derived.Test.YtjlhkjiccibgdaaBas
import Derived.Test.YtjlhkjiccibgdaaProg
import Derived.Test.YtjlhkjiccibgdaaRea
import Derived.Laws.IdiomCopy
namespace Go.Proofs.Ytjlhkjiccibgdaa
open Go.ChangeShapes Go.WideShapes Go.ChangeAt Go.RowKit Go.Deep
set_option linter.unusedVariables false

theorem step_copy_cells {P : Program} {ops : Array Oper} {oo : Oper} {ac : Act} {w : World} {K : Act → World → Prop} {Q : Exit → Act → World → Prop} {E : Prop} (hgd : oo.guard = none) (d s : Operand) (dT sT elem : TypeId)
    (ho : oo.op = .call { callee := .builtin .copy, args := #[d, s], argTypes := #[dT, sT] }) (hu : P.underlying dT = some (.slice elem)) (hsz : (P.info? elem).map (·.size) = some 1)
    (b o dLen dCap : Nat) (ad : Addr) (sLen sCap : Nat) (hd : ac.eval d = .slice (some ⟨b, o, none⟩) dLen dCap) (hs : ac.eval s = .slice (some ad) sLen sCap) (cs : List Value) (hn : cs.length = Nat.min sLen dLen)
    (hsrc : ∀ j v, cs[j]? = some v → w.cell? (ad.add j) = some v) (hc : ∀ j, j < cs.length → (w.cell? ⟨b, o + j, none⟩).isSome = true) (hf : ∀ j, j < cs.length → w.frozen? ⟨b, o + j, none⟩ = false) (h1 : ∀ v ∈ cs, v.oneCell' = true) (dd : Option Nat) (hdd : oo.dst = dd)
    (h : K (ac.put dd (goInt cs.length)) (w.setCells b o cs)) : if Region.wanted oo (yielded ops ac.tmps) = true then Oper.wp P oo ac w K Q else E := by
  have hw : Region.wanted oo (yielded ops ac.tmps) = true := by simp [Region.wanted, hgd]
  rw [if_pos hw]
  subst hdd
  have hrun := run_copy_cells (P := P) w dT sT oo.type elem b o dLen dCap ad sLen sCap cs hu hsz hn hsrc hc hf h1
  unfold Oper.wp
  simp [execOp, ho, resolve, invoke, builtin, hd, hs, hrun, Result.andThen]
  exact h
theorem infoB1 : (Try.prog.info? 5).map (·.size) = some 1 := by kernel_rfl
theorem one_bytes (zs : List Int) : ∀ v ∈ zs.map (Value.int .u8), v.oneCell' = true := by
  intro v hv
  obtain ⟨z, _, rfl⟩ := List.mem_map.1 hv
  rfl
theorem bk_kept {w w' : World} {b : Nat} {cs : Array Value} (hb : Below w.heap.size w w') (h : Bk w b cs) : Bk w' b cs := h.below hb
theorem room4 {w : World} {B : Nat} {x0 x1 x2 x3 : Value} (h : Bk w B #[x0, x1, x2, x3]) (S : Nat) (hS : S ≤ 4) : ∀ j, j < S → (w.cell? ⟨B, 0 + j, none⟩).isSome = true := fun j hj => by
  have : j = 0 ∨ j = 1 ∨ j = 2 ∨ j = 3 := by omega
  rcases this with rfl | rfl | rfl | rfl
  · rw [h.cell 0 x0 rfl]; rfl
  · rw [h.cell 1 x1 rfl]; rfl
  · rw [h.cell 2 x2 rfl]; rfl
  · rw [h.cell 3 x3 rfl]; rfl
theorem src1 {w : World} {b o : Nat} {z0 : Int} (h : w.cell? ⟨b, o + 0, none⟩ = some (.int .u8 z0)) : ∀ j v, [Value.int .u8 z0][j]? = some v → w.cell? ((⟨b, o, none⟩ : Addr).add j) = some v := fun j v hj => by
  rw [add_plain]
  have : j = 0 := by
    rcases Nat.lt_or_ge j 1 with g | g
    · omega
    · rw [List.getElem?_eq_none (by simpa using g)] at hj; cases hj
  subst this
  cases hj
  exact h
theorem src4 {w : World} {b o : Nat} {z0 z1 z2 z3 : Int} (h : w.cell? ⟨b, o + 0, none⟩ = some (.int .u8 z0) ∧ w.cell? ⟨b, o + 1, none⟩ = some (.int .u8 z1) ∧ w.cell? ⟨b, o + 2, none⟩ = some (.int .u8 z2) ∧ w.cell? ⟨b, o + 3, none⟩ = some (.int .u8 z3)) : ∀ j v, [Value.int .u8 z0, .int .u8 z1, .int .u8 z2, .int .u8 z3][j]? = some v → w.cell? ((⟨b, o, none⟩ : Addr).add j) = some v := fun j v hj => by
  rw [add_plain]
  have : j = 0 ∨ j = 1 ∨ j = 2 ∨ j = 3 := by
    rcases Nat.lt_or_ge j 4 with g | g
    · omega
    · rw [List.getElem?_eq_none (by simpa using g)] at hj; cases hj
  rcases this with rfl | rfl | rfl | rfl <;> cases hj
  · exact h.1
  · exact h.2.1
  · exact h.2.2.1
  · exact h.2.2.2
theorem st1 {w : World} {b c i j : Nat} {v u : Value} (hne : b ≠ c) (h : w.cell? ⟨b, i, none⟩ = some v) : (w.setCell ⟨c, j, none⟩ u).cell? ⟨b, i, none⟩ = some v := by
  rw [World.cell?_setCell_other _ _ _ _ (by intro c'; injection c' with c1 c2 c3; exact hne c1.symm)]; exact h
end Go.Proofs.Ytjlhkjiccibgdaa
