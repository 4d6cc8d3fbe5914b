
/-
  Lists of words that a call owns, and a whole slice of words appended to one, the slice nil, empty or not. Conditions: at most 1048576 words together.
-/
import Derived.Test.YtobgaakcinjnaaaProg
import Derived.Test.YtobgaakcinjnaaaChk
import Derived.Deep.AppendLies
import Derived.OwnWalk
namespace Go.Proofs.Ytobgaakcinjnaaa
open Go.ChangeShapes Go.WideShapes Go.ChangeAt Go.RowKit Go.Deep
set_option linter.unusedVariables false

theorem news_at (w : World) (v : Value) (T : TypeId) (B : Nat) (hB : B = w.heap.size) : ∀ j u, [v][j]? = some u → (w.alloc (.cells #[v] T)).cell? ((⟨B, 0, none⟩ : Addr).add j) = some u := by
  subst hB
  exact World.news_of_block (cs := #[v]) (t := T) (fr := (0, 0)) (by show (w.heap.push _)[w.heap.size]? = _; simp)
theorem ownsRow_below {w w' : World} {base : Nat} {e : TypeId} {size : Nat} {v : Value} {n : Nat} {xs : List Value} (h : w.ownsRow base e size v n xs) (hb : Below w.heap.size w w') : w'.ownsRow base e size v n xs :=
  World.ownsRow.kept (row := none) h ⟨hb.os, hb.tape, hb.output, hb.size, fun k hk _ => hb.block k hk⟩ (by cases hv : v.ownBlock <;> simp)
theorem ownsRow_betw {w w' : World} {base lo hi : Nat} {e : TypeId} {size : Nat} {v : Value} {n : Nat} {xs : List Value} (h : w.ownsRow base e size v n xs) (hb : Betw lo hi w w') (ho : hi ≤ base) : w'.ownsRow base e size v n xs := by
  refine ⟨h.1, ?_⟩
  rcases h.2 with hn | ⟨g, cap, cur, rfl, hbs, hgg, rest⟩
  · exact .inl hn
  · refine .inr ⟨g, cap, cur, rfl, hbs, ?_, rest⟩
    have hlt : g < w.heap.size := by
      rcases Nat.lt_or_ge g w.heap.size with hlt | hge
      · exact hlt
      · rw [Array.getElem?_eq_none hge] at hgg; cases hgg
    rw [hb.block g hlt (by omega)]
    exact hgg
theorem own_low {w : World} {lo : Nat} {e : TypeId} {size : Nat} {v : Value} {n : Nat} {xs : List Value} (h : w.ownsRow lo e size v n xs) : ∀ g, v.ownBlock = some g → lo ≤ g := by
  rcases h.2 with ⟨h0, h1⟩ | ⟨g, cap, cur, rfl, hb, hg, h1, h2, h3, h4⟩
  · subst h0; intro k hk; cases hk
  · intro k hk; cases hk; exact hb
theorem Bk.grown {w w' : World} {b lo : Nat} {cs : Array Value} {row : Option Nat} (h : Bk w b cs) (hg : w.grownBy w' row) (hne : ∀ g, row = some g → lo ≤ g) (hb : b < lo) : Bk w' b cs := by
  have hk := hg.block b h.lt (fun e => by have := hne b e.symm; omega)
  exact ⟨Nat.lt_of_lt_of_le h.lt hg.size, fun i v e => (World.cell?_of_block (a := ⟨b, i, none⟩) hk).trans (h.cell i v e), fun i => (World.frozen?_of_block (a := ⟨b, i, none⟩) hk).trans (h.free i)⟩
theorem infoUU : (Try.prog.info? 33).map (fun i => (i.zero, i.size, i.bytes)) = some (some (.int .u32 0), 1, 4) := by kernel_rfl
theorem infoU' : ∃ i, Try.prog.info? 33 = some i ∧ i.zero = some (.int .u32 0) ∧ i.size = 1 ∧ i.bytes = 4 := by
  obtain ⟨i, hi, h⟩ := Option.map_eq_some_iff.1 infoUU
  simp only [Prod.mk.injEq] at h
  exact ⟨i, hi, h.1, h.2.1, h.2.2⟩
def OwnU (w : World) (base : Nat) (v : Value) (zs : List Int) : Prop := w.ownsRow base 33 1 v zs.length (zs.map (Value.int .u32))
theorem OwnU.new (w : World) (B : Nat) (hB : B = w.heap.size) : OwnU (w.alloc (.cells #[] 33)) B (.slice (some ⟨B, 0, none⟩) 0 0) [] := by
  subst hB
  exact ⟨rfl, .inr ⟨w.heap.size, 0, #[], rfl, Nat.le_refl _, by show (w.heap.push _)[w.heap.size]? = _; simp, Nat.le_refl _, by simp, rfl, rfl⟩⟩
theorem OwnU.seg {w : World} {base : Nat} {v : Value} {zs : List Int} (h : OwnU w base v zs) : ∃ a cap, v = .slice a zs.length cap ∧ Seg .u32 w a zs := by
  rcases h.2 with ⟨h0, h1⟩ | ⟨g, cap, cur, rfl, hb, hg, h1, h2, h3, h4⟩
  · exact ⟨none, 0, by rw [h0, h1], fun h => absurd h (by omega)⟩
  · refine ⟨_, _, rfl, fun h0 => ⟨g, 0, rfl, ?_, fun i hi => ?_⟩⟩
    · rcases Nat.lt_or_ge g w.heap.size with hlt | hge
      · exact hlt
      · rw [Array.getElem?_eq_none hge] at hg; cases hg
    · rw [Nat.zero_add]
      have e : cur[i]? = some (.int .u32 (zs.getD i 0)) := by
        have := congrArg (·[i]?) h4
        simp only [Nat.mul_one] at this
        rw [List.getElem?_take, if_pos hi] at this
        simpa [hi, List.getD] using this
      simp [World.cell?, hg, e]
theorem OwnU.below {w w' : World} {base : Nat} {v : Value} {zs : List Int} (h : OwnU w base v zs) (hb : Below w.heap.size w w') : OwnU w' base v zs := ownsRow_below h hb
theorem OwnU.low {w : World} {base b' : Nat} {v : Value} {zs : List Int} (h : OwnU w base v zs) (hle : b' ≤ base) : OwnU w b' v zs := by
  refine ⟨h.1, ?_⟩
  rcases h.2 with hn | ⟨g, cap, cur, e, hb, rest⟩
  · exact .inl hn
  · exact .inr ⟨g, cap, cur, e, by omega, rest⟩
theorem OwnU.snoc {w : World} {base g cap : Nat} {zs : List Int} {r : Int} (h : w.ownsRow base 33 1 (.slice (some ⟨g, 0, none⟩) (zs.length + 1) cap) (zs.length + 1) (zs.map (Value.int .u32) ++ [.int .u32 r])) :
    OwnU w base (.slice (some ⟨g, 0, none⟩) (zs.length + 1) cap) (zs ++ [r]) := by
  unfold OwnU
  simpa using h
theorem OwnU.kept {w w' : World} {base : Nat} {v : Value} {zs : List Int} {row : Option Nat} (h : OwnU w base v zs) (hg : w.grownBy w' row) (hne : ∀ g, v.ownBlock = some g → row ≠ some g) : OwnU w' base v zs :=
  World.ownsRow.kept h hg (by
    cases hv : v.ownBlock with
    | none => exact .inl rfl
    | some g => exact .inr (fun e => hne g hv e.symm))
theorem news_u (w : World) (z : Int) (B : Nat) (hB : B = w.heap.size) : ∀ j u, [Value.int .u32 z][j]? = some u → (w.alloc (.cells #[.int .u32 z] 33)).cell? ((⟨B, 0, none⟩ : Addr).add j) = some u := news_at w _ 33 B hB
theorem one_u (r : Int) : ∀ u ∈ [Value.int .u32 r], u.oneCell' = true := by
  intro u hu
  simp only [List.mem_singleton] at hu
  subst hu
  rfl
theorem OwnU.blk {w w' : World} {base B : Nat} {v : Value} {zs : List Int} (h : OwnU w base v zs) (hb : Below B w w') (hlt : ∀ g, v.ownBlock = some g → g < B) : OwnU w' base v zs := by
  refine ⟨h.1, ?_⟩
  rcases h.2 with hn | ⟨g, cap, cur, e, hbs, hg, rest⟩
  · exact .inl hn
  · exact .inr ⟨g, cap, cur, e, hbs, by rw [hb.block g (hlt g (by rw [e]; rfl))]; exact hg, rest⟩
theorem us_one (zs : List Int) : ∀ u ∈ zs.map (Value.int .u32), u.oneCell' = true := by
  intro u hu
  obtain ⟨z, _, rfl⟩ := List.mem_map.1 hu
  rfl
theorem news_us {w : World} {b off : Nat} {zs : List Int} (hc : ∀ i, i < zs.length → w.cell? ⟨b, off + i, none⟩ = some (.int .u32 (zs.getD i 0))) :
    ∀ j u, (zs.map (Value.int .u32))[j]? = some u → w.cell? ((⟨b, off, none⟩ : Addr).add j) = some u := fun j u e => by
  rw [add_plain]
  rw [List.getElem?_map] at e
  obtain ⟨z, hz, rfl⟩ := Option.map_eq_some_iff.1 e
  have hj : j < zs.length := by
    rcases Nat.lt_or_ge j zs.length with g | g
    · exact g
    · rw [List.getElem?_eq_none g] at hz; cases hz
  rw [hc j hj]
  simp [List.getD, hz]
theorem run_append_us (t ty : TypeId) (ht : Try.prog.underlying t = some (.slice 33)) (w : World) (base : Nat) (v : Value) (us ws : List Int) (a : Option Addr) (c : Nat)
    (hown : OwnU w base v us) (hs : Seg .u32 w a ws) (hn : us.length + ws.length ≤ 1048576) (hbase : base ≤ w.heap.size) (hv : v ≠ .slice none 0 0) :
    ∃ v' w', (Builtin.append_ #[t, t] ty #[v, .slice a ws.length c]).run Try.prog w = .ok v' w' ∧ OwnU w' base v' (us ++ ws) ∧ w.grownBy w' v.ownBlock ∧ v' ≠ .slice none 0 0 ∧ (v'.ownBlock = v.ownBlock ∨ v'.ownBlock = some w.heap.size) := by
  obtain ⟨iW, hi1, hi2, hi3, hi4⟩ := infoU'
  have key : ∀ ad : Addr, (∀ j u, (ws.map (Value.int .u32))[j]? = some u → w.cell? (ad.add j) = some u) → ∃ v' w', (Builtin.append_ #[t, t] ty #[v, .slice (some ad) ws.length c]).run Try.prog w = .ok v' w' ∧ OwnU w' base v' (us ++ ws) ∧ w.grownBy w' v.ownBlock ∧ v' ≠ .slice none 0 0 ∧ (v'.ownBlock = v.ownBlock ∨ v'.ownBlock = some w.heap.size) := fun ad hnews => by
    obtain ⟨v', w', hr, h2, h3, h4, h5⟩ := run_append_own_at (P := Try.prog) w base t ty 33 iW _ 1 4 ht hi1 hi2 hi3 hi4 rfl (by omega) v us.length (us.map (Value.int .u32)) hown ad ws.length c (ws.map (Value.int .u32)) (by simp) hnews (us_one ws) (by unfold maxLen; omega) (by omega) hbase
    refine ⟨v', w', hr, ?_, h3, fun e => hv (h4.1 e).1, h5⟩
    unfold OwnU
    rw [List.map_append, List.length_append]
    exact h2
  cases a with
  | some ad =>
    by_cases h0 : 0 < ws.length
    · obtain ⟨b, off, e, hlt, hc⟩ := hs h0
      cases e
      exact key _ (news_us hc)
    · have : ws = [] := List.eq_nil_of_length_eq_zero (by omega)
      subst this
      exact key ad (fun j u e => by simp at e)
  | none =>
    by_cases h0 : 0 < ws.length
    · obtain ⟨b, off, e, hlt, hc⟩ := hs h0
      cases e
    · have : ws = [] := List.eq_nil_of_length_eq_zero (by omega)
      subst this
      have key' := key ⟨0, 0, none⟩ (fun j u e => by simp at e)
      have heq : (Builtin.append_ #[t, t] ty #[v, .slice none 0 c]).run Try.prog w = (Builtin.append_ #[t, t] ty #[v, .slice (some ⟨0, 0, none⟩) 0 c]).run Try.prog w := by
        rcases hown.2 with ⟨h0, h1⟩ | ⟨g, cap, cur, rfl, hb, hg, h1, h2, h3, h4⟩
        · exact absurd h0 hv
        · simp [Builtin.append_, run_underlying ht, sizeOf, typeInfo, hi1, Builtin.lenOf, h1, Builtin.firstCells, loadCells, loadCellsFrom]
      simp only [List.length_nil] at key' ⊢
      rw [heq]
      exact key'
/-- At a step of a region that draws its order. -/
theorem step_append_us {ops : Array Oper} {o : Oper} {ac : Act} {K : Act → World → Prop} {Q : Exit → Act → World → Prop} {E : Prop} (w : World) (hgd : o.guard = none) (s x : Operand) (t : TypeId)
    (ho : o.op = .call { callee := .builtin .append, args := #[s, x], argTypes := #[t, t] }) (ht : Try.prog.underlying t = some (.slice 33))
    (base : Nat) (v : Value) (us ws : List Int) (a : Option Addr) (n c : Nat) (hsv : ac.eval s = v) (hxv : ac.eval x = .slice a n c) (hl : ws.length = n)
    (hown : OwnU w base v us) (hs : Seg .u32 w a ws) (hn : us.length + ws.length ≤ 1048576) (hbase : base ≤ w.heap.size) (hv : v ≠ .slice none 0 0) (d : Option Nat) (hd : o.dst = d)
    (h : ∀ v' w', OwnU w' base v' (us ++ ws) → w.grownBy w' v.ownBlock → v' ≠ .slice none 0 0 → (v'.ownBlock = v.ownBlock ∨ v'.ownBlock = some w.heap.size) → K (ac.put d v') w') :
    if Region.wanted o (yielded ops ac.tmps) = true then Oper.wp Try.prog o ac w K Q else E := by
  have hw : Region.wanted o (yielded ops ac.tmps) = true := by simp [Region.wanted, hgd]
  rw [if_pos hw]
  subst hl hd
  obtain ⟨v', w', hr, h2, h3, h4, h5⟩ := run_append_us t o.type ht w base v us ws a c hown hs hn hbase hv
  unfold Oper.wp execOp
  simp only [ho, resolve, invoke, builtin, Sem.run_bind, Sem.run_pure, Result.andThen_ok, List.map_toArray, List.map_cons, List.map_nil, hsv, hxv, hr]
  exact h v' w' h2 h3 h4 h5
/-- At an operation that is run in its turn. -/
theorem wpList_append_us {ops : Array Oper} {rest : List Oper} {o : Oper} {ac : Act} {Q : Exit → Act → World → Prop} (w : World) (hg : o.guard = none) (s x : Operand) (t : TypeId)
    (ho : o.op = .call { callee := .builtin .append, args := #[s, x], argTypes := #[t, t] }) (ht : Try.prog.underlying t = some (.slice 33))
    (base : Nat) (v : Value) (us ws : List Int) (a : Option Addr) (n c : Nat) (hsv : ac.eval s = v) (hxv : ac.eval x = .slice a n c) (hl : ws.length = n)
    (hown : OwnU w base v us) (hs : Seg .u32 w a ws) (hn : us.length + ws.length ≤ 1048576) (hbase : base ≤ w.heap.size) (hv : v ≠ .slice none 0 0)
    (h : ∀ v' w', OwnU w' base v' (us ++ ws) → w.grownBy w' v.ownBlock → v' ≠ .slice none 0 0 → (v'.ownBlock = v.ownBlock ∨ v'.ownBlock = some w.heap.size) → wpList Try.prog ops Q rest (ac.put o.dst v') w') :
    wpList Try.prog ops Q (o :: rest) ac w := by
  refine wpList_plain hg fun K' hK' => ?_
  subst hl
  obtain ⟨v', w', hr, h2, h3, h4, h5⟩ := run_append_us t o.type ht w base v us ws a c hown hs hn hbase hv
  unfold Oper.wp execOp
  simp only [ho, resolve, invoke, builtin, Sem.run_bind, Sem.run_pure, Result.andThen_ok, List.map_toArray, List.map_cons, List.map_nil, hsv, hxv, hr]
  exact hK' _ _ (h v' w' h2 h3 h4 h5)
theorem OwnU.shape {w : World} {base : Nat} {v : Value} {zs : List Int} {n : Nat} (h : OwnU w base v zs) (hv : v ≠ .slice none 0 0) (hn : zs.length = n) : ∃ g cap, v = .slice (some ⟨g, 0, none⟩) n cap ∧ n ≤ cap := by
  subst hn
  rcases h.2 with ⟨h0, h1⟩ | ⟨g, cap, cur, e, hb, hg, h1, r⟩
  · exact absurd h0 hv
  · exact ⟨g, cap, e, h1⟩
/-- .. with the new slice's shape written out. -/
theorem step_append_shapedU {ops : Array Oper} {o : Oper} {ac : Act} {K : Act → World → Prop} {Q : Exit → Act → World → Prop} {E : Prop} (w : World) (hgd : o.guard = none) (s x : Operand) (t : TypeId)
    (ho : o.op = .call { callee := .builtin .append, args := #[s, x], argTypes := #[t, t] }) (ht : Try.prog.underlying t = some (.slice 33))
    (base : Nat) (v : Value) (us ws : List Int) (a : Option Addr) (n c : Nat) (hsv : ac.eval s = v) (hxv : ac.eval x = .slice a n c) (hl : ws.length = n)
    (hown : OwnU w base v us) (hs : Seg .u32 w a ws) (hn : us.length + ws.length ≤ 1048576) (hbase : base ≤ w.heap.size) (hv : v ≠ .slice none 0 0) (d : Option Nat) (hd : o.dst = d) (N : Nat) (hN : us.length + n = N)
    (h : ∀ g cap w', OwnU w' base (.slice (some ⟨g, 0, none⟩) N cap) (us ++ ws) → w.grownBy w' v.ownBlock → N ≤ cap → ((Value.slice (some ⟨g, 0, none⟩) N cap).ownBlock = v.ownBlock ∨ (Value.slice (some ⟨g, 0, none⟩) N cap).ownBlock = some w.heap.size) → K (ac.put d (.slice (some ⟨g, 0, none⟩) N cap)) w') :
    if Region.wanted o (yielded ops ac.tmps) = true then Oper.wp Try.prog o ac w K Q else E := by
  refine step_append_us w hgd s x t ho ht base v us ws a n c hsv hxv hl hown hs hn hbase hv d hd fun v' w' h1 h2 h3 h4 => ?_
  obtain ⟨g, cap, rfl, hc⟩ := h1.shape h3 (n := N) (by simp; omega)
  exact h g cap w' h1 h2 hc h4
theorem wpList_append_shapedU {ops : Array Oper} {rest : List Oper} {o : Oper} {ac : Act} {Q : Exit → Act → World → Prop} (w : World) (hg : o.guard = none) (s x : Operand) (t : TypeId)
    (ho : o.op = .call { callee := .builtin .append, args := #[s, x], argTypes := #[t, t] }) (ht : Try.prog.underlying t = some (.slice 33))
    (base : Nat) (v : Value) (us ws : List Int) (a : Option Addr) (n c : Nat) (hsv : ac.eval s = v) (hxv : ac.eval x = .slice a n c) (hl : ws.length = n)
    (hown : OwnU w base v us) (hs : Seg .u32 w a ws) (hn : us.length + ws.length ≤ 1048576) (hbase : base ≤ w.heap.size) (hv : v ≠ .slice none 0 0) (N : Nat) (hN : us.length + n = N)
    (h : ∀ g cap w', OwnU w' base (.slice (some ⟨g, 0, none⟩) N cap) (us ++ ws) → w.grownBy w' v.ownBlock → N ≤ cap → ((Value.slice (some ⟨g, 0, none⟩) N cap).ownBlock = v.ownBlock ∨ (Value.slice (some ⟨g, 0, none⟩) N cap).ownBlock = some w.heap.size) → wpList Try.prog ops Q rest (ac.put o.dst (.slice (some ⟨g, 0, none⟩) N cap)) w') :
    wpList Try.prog ops Q (o :: rest) ac w := by
  refine wpList_append_us w hg s x t ho ht base v us ws a n c hsv hxv hl hown hs hn hbase hv fun v' w' h1 h2 h3 h4 => ?_
  obtain ⟨g, cap, rfl, hc⟩ := h1.shape h3 (n := N) (by simp; omega)
  exact h g cap w' h1 h2 hc h4
theorem OwnU.oe {w : World} {base : Nat} {v : Value} {zs : List Int} (h : OwnU w base v zs) : ∃ a cap, v = .slice a zs.length cap ∧ OE w base w.heap.size a zs := by
  rcases h.2 with ⟨h0, h1⟩ | ⟨g, cap, cur, rfl, hb, hg, h1, h2, h3, h4⟩
  · exact ⟨none, 0, by rw [h0, h1], by have : zs = [] := List.eq_nil_of_length_eq_zero h1; rw [this]; exact OE.nil _ _ _ _⟩
  · have hlt : g < w.heap.size := by
      rcases Nat.lt_or_ge g w.heap.size with hlt | hge
      · exact hlt
      · rw [Array.getElem?_eq_none hge] at hg; cases hg
    refine ⟨_, _, rfl, g, fun h0 => ⟨0, rfl, hb, hlt, hlt, fun i hi => ?_, fun i => by simp [World.frozen?, hg]⟩⟩
    rw [Nat.zero_add]
    have e : cur[i]? = some (.int .u32 (zs.getD i 0)) := by
      have := congrArg (·[i]?) h4
      simp only [Nat.mul_one] at this
      rw [List.getElem?_take, if_pos hi] at this
      simpa [hi, List.getD] using this
    simp [World.cell?, hg, e]
end Go.Proofs.Ytobgaakcinjnaaa
