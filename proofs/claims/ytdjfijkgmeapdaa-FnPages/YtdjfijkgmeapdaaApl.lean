
/-
  A whole slice of integers appended to a list of the call's own, the slice nil, empty or not; and whether a page is among pages. Conditions: at most 1048576 integers together.
-/
import Derived.Test.YtdjfijkgmeapdaaProg
import Derived.Test.YtdjfijkgmeapdaaTki
import Derived.Deep.AppendLies
namespace Go.Proofs.Ytdjfijkgmeapdaa
open Go.ChangeShapes Go.WideShapes Go.ChangeAt Go.RowKit Go.Deep
set_option linter.unusedVariables false

theorem ints_one (zs : List Int) : ∀ u ∈ zs.map (Value.int .i64), u.oneCell' = true := by
  intro u hu
  obtain ⟨z, _, rfl⟩ := List.mem_map.1 hu
  rfl
theorem news_ints {w : World} {b off : Nat} {zs : List Int} (hc : ∀ i, i < zs.length → w.cell? ⟨b, off + i, none⟩ = some (.int .i64 (zs.getD i 0))) :
    ∀ j u, (zs.map (Value.int .i64))[j]? = some u → w.cell? ((⟨b, off, none⟩ : Addr).add j) = some u := fun j u e => by
  rw [add_plain]
  rw [List.getElem?_map] at e
  obtain ⟨z, hz, rfl⟩ := Option.map_eq_some_iff.1 e
  have hj : j < zs.length := by
    rcases Nat.lt_or_ge j zs.length with g | g
    · exact g
    · rw [List.getElem?_eq_none g] at hz; cases hz
  rw [hc j hj]
  simp [List.getD, hz]
theorem run_append_ints (t ty : TypeId) (ht : Try.prog.underlying t = some (.slice 3)) (w : World) (base : Nat) (v : Value) (us ws : List Int) (a : Option Addr) (c : Nat)
    (hown : OwnL w base v us) (hs : Seg .i64 w a ws) (hn : us.length + ws.length ≤ 1048576) (hbase : base ≤ w.heap.size) (hv : v ≠ .slice none 0 0) :
    ∃ v' w', (Builtin.append_ #[t, t] ty #[v, .slice a ws.length c]).run Try.prog w = .ok v' w' ∧ OwnL w' base v' (us ++ ws) ∧ w.grownBy w' v.ownBlock ∧ v' ≠ .slice none 0 0 ∧ (v'.ownBlock = v.ownBlock ∨ v'.ownBlock = some w.heap.size) := by
  obtain ⟨iW, hi1, hi2, hi3, hi4⟩ := info3'
  have key : ∀ ad : Addr, (∀ j u, (ws.map (Value.int .i64))[j]? = some u → w.cell? (ad.add j) = some u) → ∃ v' w', (Builtin.append_ #[t, t] ty #[v, .slice (some ad) ws.length c]).run Try.prog w = .ok v' w' ∧ OwnL w' base v' (us ++ ws) ∧ w.grownBy w' v.ownBlock ∧ v' ≠ .slice none 0 0 ∧ (v'.ownBlock = v.ownBlock ∨ v'.ownBlock = some w.heap.size) := fun ad hnews => by
    obtain ⟨v', w', hr, h2, h3, h4, h5⟩ := run_append_own_at (P := Try.prog) w base t ty 3 iW _ 1 8 ht hi1 hi2 hi3 hi4 rfl (by omega) v us.length (us.map (Value.int .i64)) hown ad ws.length c (ws.map (Value.int .i64)) (by simp) hnews (ints_one ws) (by unfold maxLen; omega) (by omega) hbase
    refine ⟨v', w', hr, ?_, h3, fun e => hv (h4.1 e).1, h5⟩
    unfold OwnL
    rw [List.map_append, List.length_append]
    exact h2
  cases a with
  | some ad =>
    by_cases h0 : 0 < ws.length
    · obtain ⟨b, off, e, hlt, hc⟩ := hs h0
      cases e
      exact key _ (news_ints hc)
    · have : ws = [] := List.eq_nil_of_length_eq_zero (by omega)
      subst this
      exact key ad (fun j u e => by simp at e)
  | none =>
    by_cases h0 : 0 < ws.length
    · obtain ⟨b, off, e, hlt, hc⟩ := hs h0
      cases e
    · have : ws = [] := List.eq_nil_of_length_eq_zero (by omega)
      subst this
      have key' := key ⟨0, 0, none⟩ (fun j u e => by simp at e)
      have heq : (Builtin.append_ #[t, t] ty #[v, .slice none 0 c]).run Try.prog w = (Builtin.append_ #[t, t] ty #[v, .slice (some ⟨0, 0, none⟩) 0 c]).run Try.prog w := by
        rcases hown.2 with ⟨h0, h1⟩ | ⟨g, cap, cur, rfl, hb, hg, h1, h2, h3, h4⟩
        · exact absurd h0 hv
        · simp [Builtin.append_, run_underlying ht, sizeOf, typeInfo, hi1, Builtin.lenOf, h1, Builtin.firstCells, loadCells, loadCellsFrom]
      simp only [List.length_nil] at key' ⊢
      rw [heq]
      exact key'
/-- At a step of a region that draws its order. -/
theorem step_append_ints {ops : Array Oper} {o : Oper} {ac : Act} {K : Act → World → Prop} {Q : Exit → Act → World → Prop} {E : Prop} (w : World) (hgd : o.guard = none) (s x : Operand) (t : TypeId)
    (ho : o.op = .call { callee := .builtin .append, args := #[s, x], argTypes := #[t, t] }) (ht : Try.prog.underlying t = some (.slice 3))
    (base : Nat) (v : Value) (us ws : List Int) (a : Option Addr) (n c : Nat) (hsv : ac.eval s = v) (hxv : ac.eval x = .slice a n c) (hl : ws.length = n)
    (hown : OwnL w base v us) (hs : Seg .i64 w a ws) (hn : us.length + ws.length ≤ 1048576) (hbase : base ≤ w.heap.size) (hv : v ≠ .slice none 0 0) (d : Option Nat) (hd : o.dst = d)
    (h : ∀ v' w', OwnL w' base v' (us ++ ws) → w.grownBy w' v.ownBlock → v' ≠ .slice none 0 0 → (v'.ownBlock = v.ownBlock ∨ v'.ownBlock = some w.heap.size) → K (ac.put d v') w') :
    if Region.wanted o (yielded ops ac.tmps) = true then Oper.wp Try.prog o ac w K Q else E := by
  have hw : Region.wanted o (yielded ops ac.tmps) = true := by simp [Region.wanted, hgd]
  rw [if_pos hw]
  subst hl hd
  obtain ⟨v', w', hr, h2, h3, h4, h5⟩ := run_append_ints t o.type ht w base v us ws a c hown hs hn hbase hv
  unfold Oper.wp execOp
  simp only [ho, resolve, invoke, builtin, Sem.run_bind, Sem.run_pure, Result.andThen_ok, List.map_toArray, List.map_cons, List.map_nil, hsv, hxv, hr]
  exact h v' w' h2 h3 h4 h5
/-- At an operation that is run in its turn. -/
theorem wpList_append_ints {ops : Array Oper} {rest : List Oper} {o : Oper} {ac : Act} {Q : Exit → Act → World → Prop} (w : World) (hg : o.guard = none) (s x : Operand) (t : TypeId)
    (ho : o.op = .call { callee := .builtin .append, args := #[s, x], argTypes := #[t, t] }) (ht : Try.prog.underlying t = some (.slice 3))
    (base : Nat) (v : Value) (us ws : List Int) (a : Option Addr) (n c : Nat) (hsv : ac.eval s = v) (hxv : ac.eval x = .slice a n c) (hl : ws.length = n)
    (hown : OwnL w base v us) (hs : Seg .i64 w a ws) (hn : us.length + ws.length ≤ 1048576) (hbase : base ≤ w.heap.size) (hv : v ≠ .slice none 0 0)
    (h : ∀ v' w', OwnL w' base v' (us ++ ws) → w.grownBy w' v.ownBlock → v' ≠ .slice none 0 0 → (v'.ownBlock = v.ownBlock ∨ v'.ownBlock = some w.heap.size) → wpList Try.prog ops Q rest (ac.put o.dst v') w') :
    wpList Try.prog ops Q (o :: rest) ac w := by
  refine wpList_plain hg fun K' hK' => ?_
  subst hl
  obtain ⟨v', w', hr, h2, h3, h4, h5⟩ := run_append_ints t o.type ht w base v us ws a c hown hs hn hbase hv
  unfold Oper.wp execOp
  simp only [ho, resolve, invoke, builtin, Sem.run_bind, Sem.run_pure, Result.andThen_ok, List.map_toArray, List.map_cons, List.map_nil, hsv, hxv, hr]
  exact hK' _ _ (h v' w' h2 h3 h4 h5)
theorem OwnL.shape {w : World} {base : Nat} {v : Value} {zs : List Int} {n : Nat} (h : OwnL w base v zs) (hv : v ≠ .slice none 0 0) (hn : zs.length = n) : ∃ g cap, v = .slice (some ⟨g, 0, none⟩) n cap ∧ n ≤ cap := by
  subst hn
  rcases h.2 with ⟨h0, h1⟩ | ⟨g, cap, cur, e, hb, hg, h1, r⟩
  · exact absurd h0 hv
  · exact ⟨g, cap, e, h1⟩
/-- .. with the new slice's shape written out. -/
theorem step_append_shaped {ops : Array Oper} {o : Oper} {ac : Act} {K : Act → World → Prop} {Q : Exit → Act → World → Prop} {E : Prop} (w : World) (hgd : o.guard = none) (s x : Operand) (t : TypeId)
    (ho : o.op = .call { callee := .builtin .append, args := #[s, x], argTypes := #[t, t] }) (ht : Try.prog.underlying t = some (.slice 3))
    (base : Nat) (v : Value) (us ws : List Int) (a : Option Addr) (n c : Nat) (hsv : ac.eval s = v) (hxv : ac.eval x = .slice a n c) (hl : ws.length = n)
    (hown : OwnL w base v us) (hs : Seg .i64 w a ws) (hn : us.length + ws.length ≤ 1048576) (hbase : base ≤ w.heap.size) (hv : v ≠ .slice none 0 0) (d : Option Nat) (hd : o.dst = d) (N : Nat) (hN : us.length + n = N)
    (h : ∀ g cap w', OwnL w' base (.slice (some ⟨g, 0, none⟩) N cap) (us ++ ws) → w.grownBy w' v.ownBlock → N ≤ cap → ((Value.slice (some ⟨g, 0, none⟩) N cap).ownBlock = v.ownBlock ∨ (Value.slice (some ⟨g, 0, none⟩) N cap).ownBlock = some w.heap.size) → K (ac.put d (.slice (some ⟨g, 0, none⟩) N cap)) w') :
    if Region.wanted o (yielded ops ac.tmps) = true then Oper.wp Try.prog o ac w K Q else E := by
  refine step_append_ints w hgd s x t ho ht base v us ws a n c hsv hxv hl hown hs hn hbase hv d hd fun v' w' h1 h2 h3 h4 => ?_
  obtain ⟨g, cap, rfl, hc⟩ := h1.shape h3 (n := N) (by simp; omega)
  exact h g cap w' h1 h2 hc h4
theorem wpList_append_shaped {ops : Array Oper} {rest : List Oper} {o : Oper} {ac : Act} {Q : Exit → Act → World → Prop} (w : World) (hg : o.guard = none) (s x : Operand) (t : TypeId)
    (ho : o.op = .call { callee := .builtin .append, args := #[s, x], argTypes := #[t, t] }) (ht : Try.prog.underlying t = some (.slice 3))
    (base : Nat) (v : Value) (us ws : List Int) (a : Option Addr) (n c : Nat) (hsv : ac.eval s = v) (hxv : ac.eval x = .slice a n c) (hl : ws.length = n)
    (hown : OwnL w base v us) (hs : Seg .i64 w a ws) (hn : us.length + ws.length ≤ 1048576) (hbase : base ≤ w.heap.size) (hv : v ≠ .slice none 0 0) (N : Nat) (hN : us.length + n = N)
    (h : ∀ g cap w', OwnL w' base (.slice (some ⟨g, 0, none⟩) N cap) (us ++ ws) → w.grownBy w' v.ownBlock → N ≤ cap → ((Value.slice (some ⟨g, 0, none⟩) N cap).ownBlock = v.ownBlock ∨ (Value.slice (some ⟨g, 0, none⟩) N cap).ownBlock = some w.heap.size) → wpList Try.prog ops Q rest (ac.put o.dst (.slice (some ⟨g, 0, none⟩) N cap)) w') :
    wpList Try.prog ops Q (o :: rest) ac w := by
  refine wpList_append_ints w hg s x t ho ht base v us ws a n c hsv hxv hl hown hs hn hbase hv fun v' w' h1 h2 h3 h4 => ?_
  obtain ⟨g, cap, rfl, hc⟩ := h1.shape h3 (n := N) (by simp; omega)
  exact h g cap w' h1 h2 hc h4
theorem contains_at {zs : List Int} {x : Int} : zs.contains x = true ↔ ∃ j, j < zs.length ∧ zs.getD j 0 = x := by
  rw [List.contains_iff_mem, List.mem_iff_getElem]
  constructor
  · rintro ⟨j, hj, e⟩
    exact ⟨j, hj, by simp [List.getD, hj, e]⟩
  · rintro ⟨j, hj, e⟩
    exact ⟨j, hj, by simpa [List.getD, hj] using e⟩
set_option maxHeartbeats 400000 in
theorem spec_has (x : Int) (a : Option Addr) (cap n : Nat) (zs : List Int) (w : World) (hs : Seg .i64 w a zs) (hl : zs.length = n) (hn : n ≤ 1048576) :
    Calls Try.prog 31 #[.slice a n cap, .int .i64 x] w fun e w' => e = .returned (.bool (zs.contains x)) ∧ w' = w := by
  obtain ⟨q, HE⟩ : ∃ q, Hid (zs.contains x = q) := ⟨_, rfl⟩
  have HQ : Hid (q = true ↔ ∃ j, j < n ∧ zs.getD j 0 = x) := by rw [← HE.out, ← hl]; exact contains_at
  rw [HE.out]
  have HL : Hid _ := hl
  have HS : Hid (Seg .i64 w a zs) := hs
  clear hs hl
  go_enter Try.func31, Try.ntmps31
  go_wp2
  go_loopw [5] (fun i wr => ∃ k : Nat, k ≤ n ∧ i = .int .i64 k ∧ wr = w ∧ Hid (∀ j, j < k → zs.getD j 0 ≠ x)) (fun i _ => n - (intOf i).toNat)
  case atStart => exact ⟨0, by omega, rfl, rfl, fun j hj => absurd hj (by omega)⟩
  case round =>
    obtain ⟨k, hk, rfl, rfl, HG⟩ := hrel
    by_cases hkl : k < n
    rotate_left
    · obtain rfl : k = n := by omega
      have HF : Hid (false = q) := told_no HQ.out (fun ⟨j, hj, e⟩ => HG.out j hj e)
      go_wp2
      go_ret
      exact ⟨ret_bool HF.out, rfl⟩
    have hkl' : (k : Int) < (n : Int) := by omega
    obtain ⟨b2, o2, rfl, hbl2, e2⟩ := Seg.at (w := wr) HS.out k (by rw [HL.out]; exact hkl)
    have HY : Hid (zs.getD k 0 = x → true = q) := fun h => told_yes HQ.out ⟨k, hkl, h⟩
    have HG2 : Hid (zs.getD k 0 ≠ x → ∀ j, j < k + 1 → zs.getD j 0 ≠ x) := fun h j hj => by
      by_cases e : j = k
      · subst e; exact h
      · exact HG.out j (by omega)
    generalize zs.getD k 0 = y at e2 HY HG2
    clear HG hbl2
    by_cases hyz : y = x
    · subst hyz
      have HF2 : Hid (true = q) := HY.out rfl
      go_wp2
      go_ret
      exact ⟨ret_bool HF2.out, rfl⟩
    · have hyz' : (y == x) = false := by simpa using hyz
      have HG3 : Hid _ := HG2.out hyz
      clear hyz
      go_wp2
      go_roundw
      case rel => exact ⟨k + 1, by omega, by go_num, trivial, HG3⟩
      case measure => simp [intOf]; omega
end Go.Proofs.Ytdjfijkgmeapdaa
