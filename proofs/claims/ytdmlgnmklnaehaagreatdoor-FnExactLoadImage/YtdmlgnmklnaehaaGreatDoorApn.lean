
/-
  A whole slice of numbers copied by 'append' to an empty list of the call's own, the slice nil, empty or not. Conditions: at most 1048576 numbers.
-/
import Derived.Test.YtdmlgnmklnaehaaGreatDoorBas
import Derived.Test.YtdmlgnmklnaehaaGreatDoorProg
import Derived.Test.YtdmlgnmklnaehaaGreatDoorGnm
import Derived.Test.YtdmlgnmklnaehaaGreatDoorWns
import Derived.Deep.AppendLies
import Derived.Deep.RegionHeldLaw
namespace Go.Proofs.YtdmlgnmklnaehaaGreatDoor
open Go.ChangeShapes Go.WideShapes Go.ChangeAt Go.RowKit Go.Deep
set_option linter.unusedVariables false

theorem grown_below {w w' : World} {row : Option Nat} {B : Nat} (h : w.grownBy w' row) (hr : ∀ g, row = some g → B ≤ g) (hB : B ≤ w.heap.size) : Below B w w' :=
  ⟨h.os, h.tape, h.output, h.size, fun k hk => h.block k (by omega) (fun e => by have := hr k e.symm; omega)⟩
theorem grown_betw {w w' : World} {B : Nat} (h : w.grownBy w' (some B)) : Betw B (B + 1) w w' :=
  ⟨h.os, h.tape, h.output, h.size, fun k hk ho => h.block k hk (fun e => by injection e with e; omega)⟩

theorem nums_one (k : IntKind) (zs : List Int) : ∀ u ∈ zs.map (Value.int k), u.oneCell' = true := by
  intro u hu
  obtain ⟨z, _, rfl⟩ := List.mem_map.1 hu
  rfl
theorem news_nums {k : IntKind} {w : World} {b off : Nat} {zs : List Int} (hc : ∀ i, i < zs.length → w.cell? ⟨b, off + i, none⟩ = some (.int k (zs.getD i 0))) :
    ∀ j u, (zs.map (Value.int k))[j]? = some u → w.cell? ((⟨b, off, none⟩ : Addr).add j) = some u := fun j u e => by
  rw [add_plain]
  rw [List.getElem?_map] at e
  obtain ⟨z, hz, rfl⟩ := Option.map_eq_some_iff.1 e
  have hj : j < zs.length := by
    rcases Nat.lt_or_ge j zs.length with g | g
    · exact g
    · rw [List.getElem?_eq_none g] at hz; cases hz
  rw [hc j hj]
  simp [List.getD, hz]
/-- The element type 'E' is a number of kind 'k'. -/
structure NumT (k : IntKind) (E : TypeId) (bytes : Nat) : Prop where
  info : (Tryz.prog.info? E).map (fun i => (i.zero, i.size, i.bytes)) = some (some (.int k 0), 1, bytes)
  small : bytes ≤ 8
theorem numU : NumT .u32 84 4 := ⟨infoU, by omega⟩
theorem numB : NumT .u8 5 1 := ⟨infoB, by omega⟩
theorem own_empty (w : World) (E : TypeId) (B : Nat) (hB : B = w.heap.size) : (w.alloc (.cells #[] E)).ownsRow B E 1 (.slice (some ⟨B, 0, none⟩) 0 0) 0 [] := by
  subst hB
  exact ⟨rfl, .inr ⟨w.heap.size, 0, #[], rfl, Nat.le_refl _, by show (w.heap.push _)[w.heap.size]? = _; simp, Nat.le_refl _, by simp, rfl, rfl⟩⟩
theorem on_of_owns {k : IntKind} {E : TypeId} {w : World} {base : Nat} {v : Value} {zs : List Int} (h : w.ownsRow base E 1 v zs.length (zs.map (Value.int k))) (hv : v ≠ .slice none 0 0) : ∃ g cap, v = .slice (some ⟨g, 0, none⟩) zs.length cap ∧ zs.length ≤ cap ∧ ON k w base w.heap.size (some ⟨g, 0, none⟩) zs g := by
  rcases h.2 with ⟨h0, h1⟩ | ⟨g, cap, cur, rfl, hb, hg, h1, h2, h3, h4⟩
  · exact absurd h0 hv
  · have hlt : g < w.heap.size := by
      rcases Nat.lt_or_ge g w.heap.size with hlt | hge
      · exact hlt
      · rw [Array.getElem?_eq_none hge] at hg; cases hg
    refine ⟨g, cap, rfl, h1, fun h0 => ⟨0, rfl, hb, hlt, hlt, fun i hi => ?_, fun i => by simp [World.frozen?, hg]⟩⟩
    rw [Nat.zero_add]
    have e : cur[i]? = some (.int k (zs.getD i 0)) := by
      have := congrArg (·[i]?) h4
      simp only [Nat.mul_one] at this
      rw [List.getElem?_take, if_pos hi] at this
      simpa [hi, List.getD] using this
    simp [World.cell?, hg, e]
theorem run_copy_nums {k : IntKind} {E : TypeId} {bytes : Nat} (hN : NumT k E bytes) (t ty : TypeId) (ht : Tryz.prog.underlying t = some (.slice E)) (w : World) (B : Nat) (zs : List Int) (a : Option Addr) (c : Nat)
    (hown : w.ownsRow B E 1 (.slice (some ⟨B, 0, none⟩) 0 0) 0 []) (hBw : B ≤ w.heap.size) (hs : Seg k w a zs) (hn : zs.length ≤ 1048576) :
    ∃ g cap w', (Builtin.append_ #[t, t] ty #[.slice (some ⟨B, 0, none⟩) 0 0, .slice a zs.length c]).run Tryz.prog w = .ok (.slice (some ⟨g, 0, none⟩) zs.length cap) w' ∧ (Below B w w' ∧ Betw B (B + 1) w w' ∧ (g = B ∨ g = w.heap.size)) ∧ ON k w' B w'.heap.size (some ⟨g, 0, none⟩) zs g ∧ zs.length ≤ cap := by
  obtain ⟨iW, hi1, hi⟩ := Option.map_eq_some_iff.1 hN.info
  simp only [Prod.mk.injEq] at hi
  obtain ⟨hi2, hi3, hi4⟩ := hi
  have hsm := hN.small
  have key : ∀ ad : Addr, (∀ j u, (zs.map (Value.int k))[j]? = some u → w.cell? (ad.add j) = some u) → ∃ g cap w', (Builtin.append_ #[t, t] ty #[.slice (some ⟨B, 0, none⟩) 0 0, .slice (some ad) zs.length c]).run Tryz.prog w = .ok (.slice (some ⟨g, 0, none⟩) zs.length cap) w' ∧ (Below B w w' ∧ Betw B (B + 1) w w' ∧ (g = B ∨ g = w.heap.size)) ∧ ON k w' B w'.heap.size (some ⟨g, 0, none⟩) zs g ∧ zs.length ≤ cap := fun ad hnews => by
    obtain ⟨v', w', hr, h2, h3, h4, h5⟩ := run_append_own_at (P := Tryz.prog) w B t ty E iW _ 1 bytes ht hi1 hi2 hi3 hi4 rfl (by omega) (.slice (some ⟨B, 0, none⟩) 0 0) 0 [] hown ad zs.length c (zs.map (Value.int k)) (by simp) hnews (nums_one k zs) (by unfold maxLen; omega) (by
      have : (0 + zs.length) * bytes ≤ 1048576 * 8 := Nat.mul_le_mul (by omega) hsm
      omega) hBw
    simp only [Nat.zero_add, List.nil_append] at h2
    obtain ⟨g, cap, rfl, hc, hon⟩ := on_of_owns h2 (fun e => by have := (h4.1 e).1; cases this)
    exact ⟨g, cap, w', hr, ⟨grown_below h3 (fun g e => by simp only [Value.ownBlock, Option.some.injEq] at e; omega) hBw, grown_betw h3, by simpa [Value.ownBlock] using h5⟩, hon, hc⟩
  cases a with
  | some ad =>
    by_cases h0 : 0 < zs.length
    · obtain ⟨b, off, e, hlt, hc⟩ := hs h0
      cases e
      exact key _ (news_nums hc)
    · have : zs = [] := List.eq_nil_of_length_eq_zero (by omega)
      subst this
      exact key ad (fun j u e => by simp at e)
  | none =>
    by_cases h0 : 0 < zs.length
    · obtain ⟨b, off, e, hlt, hc⟩ := hs h0
      cases e
    · have : zs = [] := List.eq_nil_of_length_eq_zero (by omega)
      subst this
      have key' := key ⟨0, 0, none⟩ (fun j u e => by simp at e)
      have heq : (Builtin.append_ #[t, t] ty #[.slice (some ⟨B, 0, none⟩) 0 0, .slice none 0 c]).run Tryz.prog w = (Builtin.append_ #[t, t] ty #[.slice (some ⟨B, 0, none⟩) 0 0, .slice (some ⟨0, 0, none⟩) 0 c]).run Tryz.prog w := by
        simp [Builtin.append_, run_underlying ht, sizeOf, typeInfo, hi1, Builtin.lenOf, Builtin.firstCells, loadCells, loadCellsFrom]
      simp only [List.length_nil] at key' ⊢
      rw [heq]
      exact key'
/-- At a step of a region that draws its order. -/
theorem step_copy_nums {ops : Array Oper} {o : Oper} {ac : Act} {K : Act → World → Prop} {Q : Exit → Act → World → Prop} {P0 : Prop} {k : IntKind} {E : TypeId} {bytes : Nat} (hN : NumT k E bytes) (w : World) (hgd : o.guard = none) (s x : Operand) (t : TypeId)
    (ho : o.op = .call { callee := .builtin .append, args := #[s, x], argTypes := #[t, t] }) (ht : Tryz.prog.underlying t = some (.slice E))
    (B : Nat) (zs : List Int) (a : Option Addr) (n c : Nat) (hsv : ac.eval s = .slice (some ⟨B, 0, none⟩) 0 0) (hxv : ac.eval x = .slice a n c) (hl : zs.length = n)
    (hown : w.ownsRow B E 1 (.slice (some ⟨B, 0, none⟩) 0 0) 0 []) (hBw : B ≤ w.heap.size) (hs : Seg k w a zs) (hn : n ≤ 1048576) (d : Option Nat) (hd : o.dst = d)
    (h : ∀ g cap w', Betw B (B + 1) w w' → (g = B ∨ g = w.heap.size) → ON k w' B w'.heap.size (some ⟨g, 0, none⟩) zs g → n ≤ cap → K (ac.put d (.slice (some ⟨g, 0, none⟩) n cap)) w') :
    if Region.wanted o (yielded ops ac.tmps) = true then Oper.wp Tryz.prog o ac w K Q else P0 := by
  have hw : Region.wanted o (yielded ops ac.tmps) = true := by simp [Region.wanted, hgd]
  rw [if_pos hw]
  subst hl hd
  obtain ⟨g, cap, w', hr, h2, h3, h4⟩ := run_copy_nums hN t o.type ht w B zs a c hown hBw hs hn
  unfold Oper.wp execOp
  simp only [ho, resolve, invoke, builtin, Sem.run_bind, Sem.run_pure, Result.andThen_ok, List.map_toArray, List.map_cons, List.map_nil, hsv, hxv, hr]
  exact h g cap w' h2.2.1 h2.2.2 h3 h4
/-- At an operation that is run in its turn. -/
theorem wpList_copy_nums {ops : Array Oper} {rest : List Oper} {o : Oper} {ac : Act} {Q : Exit → Act → World → Prop} {k : IntKind} {E : TypeId} {bytes : Nat} (hN : NumT k E bytes) (w : World) (hg : o.guard = none) (s x : Operand) (t : TypeId)
    (ho : o.op = .call { callee := .builtin .append, args := #[s, x], argTypes := #[t, t] }) (ht : Tryz.prog.underlying t = some (.slice E))
    (B : Nat) (zs : List Int) (a : Option Addr) (n c : Nat) (hsv : ac.eval s = .slice (some ⟨B, 0, none⟩) 0 0) (hxv : ac.eval x = .slice a n c) (hl : zs.length = n)
    (hown : w.ownsRow B E 1 (.slice (some ⟨B, 0, none⟩) 0 0) 0 []) (hBw : B ≤ w.heap.size) (hs : Seg k w a zs) (hn : n ≤ 1048576)
    (h : ∀ g cap w', Below B w w' → ON k w' B w'.heap.size (some ⟨g, 0, none⟩) zs g → n ≤ cap → wpList Tryz.prog ops Q rest (ac.put o.dst (.slice (some ⟨g, 0, none⟩) n cap)) w') :
    wpList Tryz.prog ops Q (o :: rest) ac w := by
  refine wpList_plain hg fun K' hK' => ?_
  subst hl
  obtain ⟨g, cap, w', hr, h2, h3, h4⟩ := run_copy_nums hN t o.type ht w B zs a c hown hBw hs hn
  unfold Oper.wp execOp
  simp only [ho, resolve, invoke, builtin, Sem.run_bind, Sem.run_pure, Result.andThen_ok, List.map_toArray, List.map_cons, List.map_nil, hsv, hxv, hr]
  exact hK' _ _ (h g cap w' h2.1 h3 h4)
end Go.Proofs.YtdmlgnmklnaehaaGreatDoor
