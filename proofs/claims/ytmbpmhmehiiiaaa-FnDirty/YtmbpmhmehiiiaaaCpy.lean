
/-
  A whole slice of ways appended to a list of the call's own, the slice nil, empty or not. Conditions: at most 1048576 ways together.
-/
import Derived.Test.YtmbpmhmehiiiaaaRows
import Derived.Test.YtmbpmhmehiiiaaaLls
import Derived.Deep.AppendLies
namespace Go.Proofs.Ytmbpmhmehiiiaaa
open Go.ChangeShapes Go.WideShapes Go.ChangeAt Go.RowKit Go.Deep
set_option linter.unusedVariables false

theorem wayCells_append (us ws : List Wy) : wayCells (us ++ ws) = wayCells us ++ wayCells ws := by simp [wayCells]
theorem wayCells_one (ws : List Wy) : ∀ u ∈ wayCells ws, u.oneCell' = true := by
  intro u hu
  simp only [wayCells, List.mem_flatMap, List.mem_cons, List.not_mem_nil, or_false] at hu
  obtain ⟨x, _, rfl | rfl⟩ := hu <;> rfl
theorem news_ways {w : World} {b off : Nat} {ws : List Wy} (hc : ∀ i, i < ws.length → w.cell? ⟨b, off + i * 2, none⟩ = some (.int .i64 (ws.getD i wd).1) ∧ w.cell? ⟨b, off + i * 2 + 1, none⟩ = some (.bool (ws.getD i wd).2)) :
    ∀ j u, (wayCells ws)[j]? = some u → w.cell? ((⟨b, off, none⟩ : Addr).add j) = some u := fun j u e => by
  have hj : j < (wayCells ws).length := by
    rcases Nat.lt_or_ge j (wayCells ws).length with g | g
    · exact g
    · rw [List.getElem?_eq_none g] at e; cases e
  rw [wayCells_len] at hj
  have hadd : (⟨b, off, none⟩ : Addr).add j = ⟨b, off + j, none⟩ := by unfold Addr.add; split <;> simp_all
  rw [hadd]
  obtain ⟨i, hi, rfl | rfl⟩ : ∃ i, i < ws.length ∧ (j = i * 2 ∨ j = i * 2 + 1) := ⟨j / 2, by omega, by omega⟩
  · rw [(wayCells_at ws i hi).1] at e
    rw [← e]; exact (hc i hi).1
  · rw [(wayCells_at ws i hi).2] at e
    rw [← e]; exact (hc i hi).2
theorem run_append_ways (t ty : TypeId) (ht : Try.prog.underlying t = some (.slice 61)) (w : World) (base : Nat) (v : Value) (us ws : List Wy) (a : Option Addr) (c : Nat)
    (hown : OwnW w base v us) (hs : WSeg w a ws) (hn : us.length + ws.length ≤ 1048576) (hbase : base ≤ w.heap.size) (hv : v ≠ .slice none 0 0) :
    ∃ v' w', (Builtin.append_ #[t, t] ty #[v, .slice a ws.length c]).run Try.prog w = .ok v' w' ∧ OwnW w' base v' (us ++ ws) ∧ w.grownBy w' v.ownBlock ∧ v' ≠ .slice none 0 0 ∧ (v'.ownBlock = v.ownBlock ∨ v'.ownBlock = some w.heap.size) := by
  obtain ⟨iW, hi1, hi2, hi3, hi4⟩ := infoW'
  have key : ∀ ad : Addr, (∀ j u, (wayCells ws)[j]? = some u → w.cell? (ad.add j) = some u) → ∃ v' w', (Builtin.append_ #[t, t] ty #[v, .slice (some ad) ws.length c]).run Try.prog w = .ok v' w' ∧ OwnW w' base v' (us ++ ws) ∧ w.grownBy w' v.ownBlock ∧ v' ≠ .slice none 0 0 ∧ (v'.ownBlock = v.ownBlock ∨ v'.ownBlock = some w.heap.size) := fun ad hnews => by
    obtain ⟨v', w', hr, h2, h3, h4, h5⟩ := run_append_own_at (P := Try.prog) w base t ty 61 iW _ 2 16 ht hi1 hi2 hi3 hi4 rfl (by omega) v us.length (wayCells us) hown ad ws.length c (wayCells ws) (wayCells_len ws) hnews (wayCells_one ws) (by unfold maxLen; omega) (by omega) hbase
    refine ⟨v', w', hr, ?_, h3, fun e => hv (h4.1 e).1, h5⟩
    unfold OwnW
    rw [wayCells_append, List.length_append]
    exact h2
  cases a with
  | some ad =>
    by_cases h0 : 0 < ws.length
    · obtain ⟨b, off, e, hlt, hc⟩ := hs h0
      cases e
      exact key _ (news_ways hc)
    · have : ws = [] := List.eq_nil_of_length_eq_zero (by omega)
      subst this
      exact key ad (fun j u e => by simp [wayCells] at e)
  | none =>
    by_cases h0 : 0 < ws.length
    · obtain ⟨b, off, e, hlt, hc⟩ := hs h0
      cases e
    · have : ws = [] := List.eq_nil_of_length_eq_zero (by omega)
      subst this
      have key' := key ⟨0, 0, none⟩ (fun j u e => by simp [wayCells] at e)
      have heq : (Builtin.append_ #[t, t] ty #[v, .slice none 0 c]).run Try.prog w = (Builtin.append_ #[t, t] ty #[v, .slice (some ⟨0, 0, none⟩) 0 c]).run Try.prog w := by
        rcases hown.2 with ⟨h0, h1⟩ | ⟨g, cap, cur, rfl, hb, hg, h1, h2, h3, h4⟩
        · exact absurd h0 hv
        · simp [Builtin.append_, run_underlying ht, sizeOf, typeInfo, hi1, Builtin.lenOf, h1, Builtin.firstCells, loadCells, loadCellsFrom]
      simp only [List.length_nil] at key' ⊢
      rw [heq]
      exact key'
/-- At a step of a region that draws its order. -/
theorem step_append_ways {ops : Array Oper} {o : Oper} {ac : Act} {K : Act → World → Prop} {Q : Exit → Act → World → Prop} {E : Prop} (w : World) (hgd : o.guard = none) (s x : Operand) (t : TypeId)
    (ho : o.op = .call { callee := .builtin .append, args := #[s, x], argTypes := #[t, t] }) (ht : Try.prog.underlying t = some (.slice 61))
    (base : Nat) (v : Value) (us ws : List Wy) (a : Option Addr) (n c : Nat) (hsv : ac.eval s = v) (hxv : ac.eval x = .slice a n c) (hl : ws.length = n)
    (hown : OwnW w base v us) (hs : WSeg w a ws) (hn : us.length + ws.length ≤ 1048576) (hbase : base ≤ w.heap.size) (hv : v ≠ .slice none 0 0)
    (h : ∀ v' w', OwnW w' base v' (us ++ ws) → w.grownBy w' v.ownBlock → v' ≠ .slice none 0 0 → (v'.ownBlock = v.ownBlock ∨ v'.ownBlock = some w.heap.size) → K (ac.put o.dst v') w') :
    if Region.wanted o (yielded ops ac.tmps) = true then Oper.wp Try.prog o ac w K Q else E := by
  have hw : Region.wanted o (yielded ops ac.tmps) = true := by simp [Region.wanted, hgd]
  rw [if_pos hw]
  subst hl
  obtain ⟨v', w', hr, h2, h3, h4, h5⟩ := run_append_ways t o.type ht w base v us ws a c hown hs hn hbase hv
  unfold Oper.wp execOp
  simp only [ho, resolve, invoke, builtin, Sem.run_bind, Sem.run_pure, Result.andThen_ok, List.map_toArray, List.map_cons, List.map_nil, hsv, hxv, hr]
  exact h v' w' h2 h3 h4 h5
end Go.Proofs.Ytmbpmhmehiiiaaa
