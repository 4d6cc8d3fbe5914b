/-
  A whole slice of numbers copied by 'append' to an empty list of the call's own, the slice nil, empty or not. Conditions: at most 1048576 numbers.
  Rows of bytes that are appended to a list of the call's own, one after another: plain facts on worlds. No conditions but those that each fact names.
  A guest's copy, by the program: a guest of the call's own that reads as the one that came in. Conditions: registers, rows and bytes are at most 1048576 together.
-/
import Derived.Test.YtfdjfjkbbfcodaaGreatDoorProg
import Derived.Test.YtfdjfjkbbfcodaaGreatDoorGst
import Derived.Test.YtfdjfjkbbfcodaaGreatDoorWnl
import Derived.Deep.AppendLies
import Derived.Deep.RegionHeldLaw
import Derived.OwnWalk
namespace Go.Proofs.YtfdjfjkbbfcodaaGreatDoor
open Go.ChangeShapes Go.WideShapes Go.ChangeAt Go.RowKit Go.Deep
set_option linter.unusedVariables false

theorem grown_below {w w' : World} {row : Option Nat} {B : Nat} (h : w.grownBy w' row) (hr : ∀ g, row = some g → B ≤ g) (hB : B ≤ w.heap.size) : Below B w w' :=
  ⟨h.os, h.tape, h.output, h.size, fun k hk => h.block k (by omega) (fun e => by have := hr k e.symm; omega)⟩
theorem grown_betw {w w' : World} {B : Nat} (h : w.grownBy w' (some B)) : Betw B (B + 1) w w' :=
  ⟨h.os, h.tape, h.output, h.size, fun k hk ho => h.block k hk (fun e => by injection e with e; omega)⟩

theorem nums_one (k : IntKind) (zs : List Int) : ∀ u ∈ zs.map (Value.int k), u.oneCell' = true := by
  intro u hu
  obtain ⟨z, _, rfl⟩ := List.mem_map.1 hu
  rfl
theorem news_nums {k : IntKind} {w : World} {b off : Nat} {zs : List Int} (hc : ∀ i, i < zs.length → w.cell? ⟨b, off + i, none⟩ = some (.int k (zs.getD i 0))) :
    ∀ j u, (zs.map (Value.int k))[j]? = some u → w.cell? ((⟨b, off, none⟩ : Addr).add j) = some u := fun j u e => by
  rw [add_plain]
  rw [List.getElem?_map] at e
  obtain ⟨z, hz, rfl⟩ := Option.map_eq_some_iff.1 e
  have hj : j < zs.length := by
    rcases Nat.lt_or_ge j zs.length with g | g
    · exact g
    · rw [List.getElem?_eq_none g] at hz; cases hz
  rw [hc j hj]
  simp [List.getD, hz]
/-- The element type 'E' is a number of kind 'k'. -/
structure NumT (k : IntKind) (E : TypeId) (bytes : Nat) : Prop where
  info : (Tryz.prog.info? E).map (fun i => (i.zero, i.size, i.bytes)) = some (some (.int k 0), 1, bytes)
  small : bytes ≤ 8
theorem numU : NumT .u32 24 4 := ⟨infoU, by omega⟩
theorem numB : NumT .u8 5 1 := ⟨infoB, by omega⟩
theorem own_empty (w : World) (E : TypeId) (B : Nat) (hB : B = w.heap.size) : (w.alloc (.cells #[] E)).ownsRow B E 1 (.slice (some ⟨B, 0, none⟩) 0 0) 0 [] := by
  subst hB
  exact ⟨rfl, .inr ⟨w.heap.size, 0, #[], rfl, Nat.le_refl _, by show (w.heap.push _)[w.heap.size]? = _; simp, Nat.le_refl _, by simp, rfl, rfl⟩⟩
theorem on_of_owns {k : IntKind} {E : TypeId} {w : World} {base : Nat} {v : Value} {zs : List Int} (h : w.ownsRow base E 1 v zs.length (zs.map (Value.int k))) (hv : v ≠ .slice none 0 0) : ∃ g cap, v = .slice (some ⟨g, 0, none⟩) zs.length cap ∧ zs.length ≤ cap ∧ ON k w base w.heap.size (some ⟨g, 0, none⟩) zs g := by
  rcases h.2 with ⟨h0, h1⟩ | ⟨g, cap, cur, rfl, hb, hg, h1, h2, h3, h4⟩
  · exact absurd h0 hv
  · have hlt : g < w.heap.size := by
      rcases Nat.lt_or_ge g w.heap.size with hlt | hge
      · exact hlt
      · rw [Array.getElem?_eq_none hge] at hg; cases hg
    refine ⟨g, cap, rfl, h1, fun h0 => ⟨0, rfl, hb, hlt, hlt, fun i hi => ?_, fun i => by simp [World.frozen?, hg]⟩⟩
    rw [Nat.zero_add]
    have e : cur[i]? = some (.int k (zs.getD i 0)) := by
      have := congrArg (·[i]?) h4
      simp only [Nat.mul_one] at this
      rw [List.getElem?_take, if_pos hi] at this
      simpa [hi, List.getD] using this
    simp [World.cell?, hg, e]
theorem run_copy_nums {k : IntKind} {E : TypeId} {bytes : Nat} (hN : NumT k E bytes) (t ty : TypeId) (ht : Tryz.prog.underlying t = some (.slice E)) (w : World) (B : Nat) (zs : List Int) (a : Option Addr) (c : Nat)
    (hown : w.ownsRow B E 1 (.slice (some ⟨B, 0, none⟩) 0 0) 0 []) (hBw : B ≤ w.heap.size) (hs : Seg k w a zs) (hn : zs.length ≤ 1048576) :
    ∃ g cap w', (Builtin.append_ #[t, t] ty #[.slice (some ⟨B, 0, none⟩) 0 0, .slice a zs.length c]).run Tryz.prog w = .ok (.slice (some ⟨g, 0, none⟩) zs.length cap) w' ∧ (Below B w w' ∧ Betw B (B + 1) w w' ∧ (g = B ∨ g = w.heap.size)) ∧ ON k w' B w'.heap.size (some ⟨g, 0, none⟩) zs g ∧ zs.length ≤ cap := by
  obtain ⟨iW, hi1, hi⟩ := Option.map_eq_some_iff.1 hN.info
  simp only [Prod.mk.injEq] at hi
  obtain ⟨hi2, hi3, hi4⟩ := hi
  have hsm := hN.small
  have key : ∀ ad : Addr, (∀ j u, (zs.map (Value.int k))[j]? = some u → w.cell? (ad.add j) = some u) → ∃ g cap w', (Builtin.append_ #[t, t] ty #[.slice (some ⟨B, 0, none⟩) 0 0, .slice (some ad) zs.length c]).run Tryz.prog w = .ok (.slice (some ⟨g, 0, none⟩) zs.length cap) w' ∧ (Below B w w' ∧ Betw B (B + 1) w w' ∧ (g = B ∨ g = w.heap.size)) ∧ ON k w' B w'.heap.size (some ⟨g, 0, none⟩) zs g ∧ zs.length ≤ cap := fun ad hnews => by
    obtain ⟨v', w', hr, h2, h3, h4, h5⟩ := run_append_own_at (P := Tryz.prog) w B t ty E iW _ 1 bytes ht hi1 hi2 hi3 hi4 rfl (by omega) (.slice (some ⟨B, 0, none⟩) 0 0) 0 [] hown ad zs.length c (zs.map (Value.int k)) (by simp) hnews (nums_one k zs) (by unfold maxLen; omega) (by
      have : (0 + zs.length) * bytes ≤ 1048576 * 8 := Nat.mul_le_mul (by omega) hsm
      omega) hBw
    simp only [Nat.zero_add, List.nil_append] at h2
    obtain ⟨g, cap, rfl, hc, hon⟩ := on_of_owns h2 (fun e => by have := (h4.1 e).1; cases this)
    exact ⟨g, cap, w', hr, ⟨grown_below h3 (fun g e => by simp only [Value.ownBlock, Option.some.injEq] at e; omega) hBw, grown_betw h3, by simpa [Value.ownBlock] using h5⟩, hon, hc⟩
  cases a with
  | some ad =>
    by_cases h0 : 0 < zs.length
    · obtain ⟨b, off, e, hlt, hc⟩ := hs h0
      cases e
      exact key _ (news_nums hc)
    · have : zs = [] := List.eq_nil_of_length_eq_zero (by omega)
      subst this
      exact key ad (fun j u e => by simp at e)
  | none =>
    by_cases h0 : 0 < zs.length
    · obtain ⟨b, off, e, hlt, hc⟩ := hs h0
      cases e
    · have : zs = [] := List.eq_nil_of_length_eq_zero (by omega)
      subst this
      have key' := key ⟨0, 0, none⟩ (fun j u e => by simp at e)
      have heq : (Builtin.append_ #[t, t] ty #[.slice (some ⟨B, 0, none⟩) 0 0, .slice none 0 c]).run Tryz.prog w = (Builtin.append_ #[t, t] ty #[.slice (some ⟨B, 0, none⟩) 0 0, .slice (some ⟨0, 0, none⟩) 0 c]).run Tryz.prog w := by
        simp [Builtin.append_, run_underlying ht, sizeOf, typeInfo, hi1, Builtin.lenOf, Builtin.firstCells, loadCells, loadCellsFrom]
      simp only [List.length_nil] at key' ⊢
      rw [heq]
      exact key'
/-- At a step of a region that draws its order. -/
theorem step_copy_nums {ops : Array Oper} {o : Oper} {ac : Act} {K : Act → World → Prop} {Q : Exit → Act → World → Prop} {P0 : Prop} {k : IntKind} {E : TypeId} {bytes : Nat} (hN : NumT k E bytes) (w : World) (hgd : o.guard = none) (s x : Operand) (t : TypeId)
    (ho : o.op = .call { callee := .builtin .append, args := #[s, x], argTypes := #[t, t] }) (ht : Tryz.prog.underlying t = some (.slice E))
    (B : Nat) (zs : List Int) (a : Option Addr) (n c : Nat) (hsv : ac.eval s = .slice (some ⟨B, 0, none⟩) 0 0) (hxv : ac.eval x = .slice a n c) (hl : zs.length = n)
    (hown : w.ownsRow B E 1 (.slice (some ⟨B, 0, none⟩) 0 0) 0 []) (hBw : B ≤ w.heap.size) (hs : Seg k w a zs) (hn : n ≤ 1048576) (d : Option Nat) (hd : o.dst = d)
    (h : ∀ g cap w', Betw B (B + 1) w w' → (g = B ∨ g = w.heap.size) → ON k w' B w'.heap.size (some ⟨g, 0, none⟩) zs g → n ≤ cap → K (ac.put d (.slice (some ⟨g, 0, none⟩) n cap)) w') :
    if Region.wanted o (yielded ops ac.tmps) = true then Oper.wp Tryz.prog o ac w K Q else P0 := by
  have hw : Region.wanted o (yielded ops ac.tmps) = true := by simp [Region.wanted, hgd]
  rw [if_pos hw]
  subst hl hd
  obtain ⟨g, cap, w', hr, h2, h3, h4⟩ := run_copy_nums hN t o.type ht w B zs a c hown hBw hs hn
  unfold Oper.wp execOp
  simp only [ho, resolve, invoke, builtin, Sem.run_bind, Sem.run_pure, Result.andThen_ok, List.map_toArray, List.map_cons, List.map_nil, hsv, hxv, hr]
  exact h g cap w' h2.2.1 h2.2.2 h3 h4
/-- At an operation that is run in its turn. -/
theorem wpList_copy_nums {ops : Array Oper} {rest : List Oper} {o : Oper} {ac : Act} {Q : Exit → Act → World → Prop} {k : IntKind} {E : TypeId} {bytes : Nat} (hN : NumT k E bytes) (w : World) (hg : o.guard = none) (s x : Operand) (t : TypeId)
    (ho : o.op = .call { callee := .builtin .append, args := #[s, x], argTypes := #[t, t] }) (ht : Tryz.prog.underlying t = some (.slice E))
    (B : Nat) (zs : List Int) (a : Option Addr) (n c : Nat) (hsv : ac.eval s = .slice (some ⟨B, 0, none⟩) 0 0) (hxv : ac.eval x = .slice a n c) (hl : zs.length = n)
    (hown : w.ownsRow B E 1 (.slice (some ⟨B, 0, none⟩) 0 0) 0 []) (hBw : B ≤ w.heap.size) (hs : Seg k w a zs) (hn : n ≤ 1048576)
    (h : ∀ g cap w', Below B w w' → ON k w' B w'.heap.size (some ⟨g, 0, none⟩) zs g → n ≤ cap → wpList Tryz.prog ops Q rest (ac.put o.dst (.slice (some ⟨g, 0, none⟩) n cap)) w') :
    wpList Tryz.prog ops Q (o :: rest) ac w := by
  refine wpList_plain hg fun K' hK' => ?_
  subst hl
  obtain ⟨g, cap, w', hr, h2, h3, h4⟩ := run_copy_nums hN t o.type ht w B zs a c hown hBw hs hn
  unfold Oper.wp execOp
  simp only [ho, resolve, invoke, builtin, Sem.run_bind, Sem.run_pure, Result.andThen_ok, List.map_toArray, List.map_cons, List.map_nil, hsv, hxv, hr]
  exact hK' _ _ (h g cap w' h2.1 h3 h4)
end Go.Proofs.YtfdjfjkbbfcodaaGreatDoor
namespace Go.Proofs.YtfdjfjkbbfcodaaGreatDoor
open Go.ChangeShapes Go.WideShapes Go.ChangeAt Go.RowKit Go.Deep
set_option linter.unusedVariables false

theorem infoR' : ∃ i, Tryz.prog.info? 61 = some i ∧ i.zero = some (.slice none 0 0) ∧ i.size = 1 ∧ i.bytes = 24 := by
  obtain ⟨i, hi, h⟩ := Option.map_eq_some_iff.1 infoR
  simp only [Prod.mk.injEq] at h
  exact ⟨i, hi, h.1, h.2.1, h.2.2⟩
theorem news_at (w : World) (v : Value) (T : TypeId) (B : Nat) (hB : B = w.heap.size) : ∀ j u, [v][j]? = some u → (w.alloc (.cells #[v] T)).cell? ((⟨B, 0, none⟩ : Addr).add j) = some u := by
  subst hB
  exact World.news_of_block (cs := #[v]) (t := T) (fr := (0, 0)) (by show (w.heap.push _)[w.heap.size]? = _; simp)
theorem one_slice (a : Option Addr) (n c : Nat) : ∀ u ∈ [Value.slice a n c], u.oneCell' = true := by
  intro u hu
  simp only [List.mem_singleton] at hu
  subst hu
  rfl
theorem ON.grown {k : IntKind} {w w' : World} {lo hi : Nat} {a : Option Addr} {ws : List Int} {R : Nat} {row : Option Nat} (h : ON k w lo hi a ws R) (hg : w.grownBy w' row) (hne : 0 < ws.length → row ≠ some R) : ON k w' lo hi a ws R := fun h0 => by
  obtain ⟨off, e, h1, h2, hlt, hc, hf⟩ := h h0
  have hb := hg.block R hlt (fun e => hne h0 e.symm)
  have hcell : ∀ q, w'.cell? ⟨R, q, none⟩ = w.cell? ⟨R, q, none⟩ := fun q => World.cell?_of_block (a := ⟨R, q, none⟩) hb
  exact ⟨off, e, h1, h2, Nat.lt_of_lt_of_le hlt hg.size, fun i hi => (hcell _).trans (hc i hi), fun j => (World.frozen?_of_block (a := ⟨R, j, none⟩) hb).trans (hf j)⟩
theorem ownsRow_betw {w w' : World} {base lo hi : Nat} {e : TypeId} {size : Nat} {v : Value} {n : Nat} {xs : List Value} (h : w.ownsRow base e size v n xs) (hb : Betw lo hi w w') (ho : hi ≤ base) : w'.ownsRow base e size v n xs := by
  refine ⟨h.1, ?_⟩
  rcases h.2 with hn | ⟨g, cap, cur, rfl, hbs, hgg, rest⟩
  · exact .inl hn
  · refine .inr ⟨g, cap, cur, rfl, hbs, ?_, rest⟩
    have hlt : g < w.heap.size := by
      rcases Nat.lt_or_ge g w.heap.size with hlt | hge
      · exact hlt
      · rw [Array.getElem?_eq_none hge] at hgg; cases hgg
    rw [hb.block g hlt (by omega)]
    exact hgg
theorem own_low {w : World} {lo : Nat} {e : TypeId} {size : Nat} {v : Value} {n : Nat} {xs : List Value} (h : w.ownsRow lo e size v n xs) : ∀ g, v.ownBlock = some g → lo ≤ g := by
  rcases h.2 with ⟨h0, h1⟩ | ⟨g, cap, cur, rfl, hb, hg, h1, h2, h3, h4⟩
  · subst h0; intro k hk; cases hk
  · intro k hk; cases hk; exact hb
theorem Bk.grown {w w' : World} {b lo : Nat} {cs : Array Value} {row : Option Nat} (h : Bk w b cs) (hg : w.grownBy w' row) (hne : ∀ g, row = some g → lo ≤ g) (hb : b < lo) : Bk w' b cs := by
  have hk := hg.block b h.lt (fun e => by have := hne b e.symm; omega)
  exact ⟨Nat.lt_of_lt_of_le h.lt hg.size, fun i v e => (World.cell?_of_block (a := ⟨b, i, none⟩) hk).trans (h.cell i v e), fun i => (World.frozen?_of_block (a := ⟨b, i, none⟩) hk).trans (h.free i)⟩
def browCells (A : Nat → Option Addr) (C : Nat → Nat) (D : Nat → List Int) (k : Nat) : List Value := (List.range k).map fun i => .slice (A i) (D i).length (C i)
/-- k rows have been appended; their blocks, and that of the list, lie below 'm'. -/
structure Bla (w : World) (lo m : Nat) (v : Value) (k : Nat) (D : Nat → List Int) (A : Nat → Option Addr) (C R : Nat → Nat) : Prop where
  mle : m ≤ w.heap.size
  own : w.ownsRow lo 61 1 v k (browCells A C D k)
  blk : ∀ g, v.ownBlock = some g → g < m
  room : ∀ i, i < k → (D i).length ≤ C i
  row : ∀ i, i < k → ON .u8 w lo m (A i) (D i) (R i)
  base : ∀ i, i < k → 0 < (D i).length → v.ownBlock ≠ some (R i)
  apart : ∀ i j, i < k → j < k → i ≠ j → 0 < (D i).length → 0 < (D j).length → R i ≠ R j
theorem Bla.none (w : World) (lo m : Nat) (D : Nat → List Int) (A : Nat → Option Addr) (C R : Nat → Nat) (hm : m ≤ w.heap.size) : Bla w lo m (.slice none 0 0) 0 D A C R :=
  ⟨hm, ⟨by simp [browCells], .inl ⟨rfl, rfl⟩⟩, fun g h => by simp [Value.ownBlock] at h, fun i hi => absurd hi (by omega), fun i hi => absurd hi (by omega), fun i hi => absurd hi (by omega), fun i j hi => absurd hi (by omega)⟩
theorem Bla.below {w w' : World} {lo m : Nat} {v : Value} {k : Nat} {D : Nat → List Int} {A : Nat → Option Addr} {C R : Nat → Nat} (h : Bla w lo m v k D A C R) (hb : Below w.heap.size w w') : Bla w' lo m v k D A C R :=
  ⟨Nat.le_trans h.mle hb.size, ownsRow_below h.own hb, h.blk, h.room, fun i hi => (h.row i hi).below hb, h.base, h.apart⟩
theorem Bla.betw {w w' : World} {lo m l' h' : Nat} {v : Value} {k : Nat} {D : Nat → List Int} {A : Nat → Option Addr} {C R : Nat → Nat} (h : Bla w lo m v k D A C R) (hb : Betw l' h' w w') (ho : h' ≤ lo) : Bla w' lo m v k D A C R :=
  ⟨Nat.le_trans h.mle hb.size, ownsRow_betw h.own hb ho, h.blk, h.room, fun i hi => (h.row i hi).betw hb (fun h0 => by obtain ⟨_, _, g, _⟩ := h.row i hi h0; omega), h.base, h.apart⟩
theorem Bla.step {w w' : World} {lo m : Nat} {v : Value} {k : Nat} {D : Nat → List Int} {A : Nat → Option Addr} {C R : Nat → Nat} (h : Bla w lo m v k D A C R) (a : Option Addr) (ca Rk H g cap : Nat)
    (how : ON .u8 w lo w.heap.size a (D k) Rk) (hR : 0 < (D k).length → m ≤ Rk) (hca : (D k).length ≤ ca) (hown : w'.ownsRow lo 61 1 (.slice (some ⟨g, 0, .none⟩) (k + 1) cap) (k + 1) (browCells A C D k ++ [.slice a (D k).length ca]))
    (hgrow : w.grownBy w' v.ownBlock) (hat : v.ownBlock = some g ∨ g = H) (hH : w.heap.size = H) (hg : g < w'.heap.size) :
    Bla w' lo w'.heap.size (.slice (some ⟨g, 0, .none⟩) (k + 1) cap) (k + 1) D (fun i => if i = k then a else A i) (fun i => if i = k then ca else C i) (fun i => if i = k then Rk else R i) := by
  have hsz := hgrow.size
  have hm := h.mle
  have hRk : 0 < (D k).length → Rk < w.heap.size := fun h0 => by obtain ⟨_, _, _, g2, _⟩ := how h0; exact g2
  have hcells : browCells (fun i => if i = k then a else A i) (fun i => if i = k then ca else C i) D (k + 1) = browCells A C D k ++ [.slice a (D k).length ca] := by
    unfold browCells
    rw [List.range_succ, List.map_append]
    congr 1
    · refine List.map_congr_left fun i hi => ?_
      have : i ≠ k := by have := List.mem_range.1 hi; omega
      simp [this]
    · simp
  refine ⟨Nat.le_refl _, by rw [hcells]; exact hown, fun g' e => by simp only [Value.ownBlock, Option.some.injEq] at e; omega, fun i hi => ?_, fun i hi => ?_, fun i hi h0 => ?_, fun i j hi hj hne hi0 hj0 => ?_⟩
  · by_cases e : i = k
    · subst e; simp only [if_pos]; exact hca
    · simp only [if_neg e]; exact h.room i (by omega)
  · by_cases e : i = k
    · subst e
      simp only [if_pos]
      refine (how.grown hgrow (fun h0 c => ?_)).wide (Nat.le_refl _) hsz
      have := h.blk _ c
      have := hR h0
      omega
    · simp only [if_neg e]
      exact ((h.row i (by omega)).grown hgrow (fun h0 => h.base i (by omega) h0)).wide (Nat.le_refl _) (by omega)
  · intro c
    simp only [Value.ownBlock, Option.some.injEq] at c
    by_cases e : i = k
    · subst e
      simp only [if_pos] at c
      rcases hat with hat | hat
      · have := h.blk _ hat; have := hR h0; omega
      · have := hRk h0; omega
    · simp only [if_neg e] at c
      rcases hat with hat | hat
      · exact h.base i (by omega) h0 (by rw [hat, c])
      · obtain ⟨_, _, _, g2, _⟩ := h.row i (by omega) h0; omega
  · by_cases e : i = k
    · have e2 : j ≠ k := by omega
      rw [e] at hi0
      obtain ⟨_, _, _, g2, _⟩ := h.row j (by omega) hj0
      simp only [if_pos e, if_neg e2]
      have := hR hi0; omega
    · by_cases e2 : j = k
      · rw [e2] at hj0
        obtain ⟨_, _, _, g2, _⟩ := h.row i (by omega) hi0
        simp only [if_neg e, if_pos e2]
        have := hR hj0; omega
      · simp only [if_neg e, if_neg e2]
        exact h.apart i j (by omega) (by omega) hne hi0 hj0
theorem Bla.rows {w : World} {lo m : Nat} {v : Value} {k : Nat} {D : Nat → List Int} {A : Nat → Option Addr} {C R : Nat → Nat} (h : Bla w lo m v k D A C R) : ∃ a cap, v = .slice a k cap ∧ BRows w lo m a k D := by
  rcases h.own.2 with ⟨h0, h1⟩ | ⟨g, cap, cur, hv, hbs, hgg, h1, h2, h3, h4⟩
  · subst h1
    exact ⟨.none, 0, h0, 0, 0, A, C, R, fun h => absurd h (by omega), ⟨fun i hi => absurd hi (by omega), fun i hi => absurd hi (by omega), fun i hi => absurd hi (by omega), fun i hi => absurd hi (by omega), fun i j hi => absurd hi (by omega)⟩⟩
  · have hgm := h.blk g (by rw [hv]; rfl)
    have hlt : g < w.heap.size := Nat.lt_of_lt_of_le hgm h.mle
    refine ⟨_, cap, hv, g, 0, A, C, R, fun _ => ⟨rfl, hbs, hgm, hlt⟩, ⟨fun i hi => ?_, h.room, h.row, fun i hi h0 e => h.base i hi h0 (by rw [hv, e]; rfl), h.apart⟩⟩
    rw [Nat.zero_add]
    have e : cur[i]? = some (.slice (A i) (D i).length (C i)) := by
      have := congrArg (·[i]?) h4
      simp only [Nat.mul_one] at this
      rw [List.getElem?_take, if_pos hi] at this
      simpa [browCells, hi] using this
    simp [World.cell?, hgg, e]
theorem Bla.form {w : World} {lo m : Nat} {v : Value} {k : Nat} {D : Nat → List Int} {A : Nat → Option Addr} {C R : Nat → Nat} (h : Bla w lo m v k D A C R) : ∃ a cap, v = .slice a k cap := by
  obtain ⟨a, cap, e, _⟩ := h.rows
  exact ⟨a, cap, e⟩
end Go.Proofs.YtfdjfjkbbfcodaaGreatDoor
namespace Go.Proofs.YtfdjfjkbbfcodaaGreatDoor
open Go.ChangeShapes Go.WideShapes Go.ChangeAt Go.RowKit Go.Deep
set_option linter.unusedVariables false

theorem Bk.low {w w' : World} {b B : Nat} {cs : Array Value} (h : Bk w b cs) (hb : Below B w w') (hlt : b < B) : Bk w' b cs :=
  ⟨Nat.lt_of_lt_of_le h.lt hb.size, fun i v e => (World.cell?_of_block (a := ⟨b, i, none⟩) (hb.block b hlt)).trans (h.cell i v e), fun i => (World.frozen?_of_block (a := ⟨b, i, none⟩) (hb.block b hlt)).trans (h.free i)⟩
/-- What a copy tells. -/
def CopyP (X : World) (pc : Int) (rl n : Nat) (rs : List Int) (D : Nat → List Int) (e : Ending) (w' : World) : Prop :=
  ∃ ra' ma' rc' mc' m, e = .returned (gst ra' rl rc' pc ma' n mc') ∧ Below X.heap.size X w' ∧ OGst w' X.heap.size m w'.heap.size ra' ma' rs n D ∧ X.heap.size ≤ m ∧ m ≤ w'.heap.size
/-- What is known in the loop of a copy. -/
structure CL (w wr : World) (B n k : Nat) (rg : Nat) (rl rc : Nat) (pc : Int) (ma : Option Addr) (mc : Nat) (rs : List Int) (D : Nat → List Int) (m : Nat) : Prop where
  bel : Below w.heap.size w wr
  b0 : Bk wr w.heap.size #[.slice (some ⟨rg, 0, none⟩) rl rc, .int .u32 pc, .slice ma n mc]
  b1 : Bk wr (w.heap.size + 1) #[.slice none 0 0, .int .u32 0, .slice none 0 0]
  low : w.heap.size + 1 < B
  regs : ON .u32 wr (w.heap.size + 1 + 1) B (some ⟨rg, 0, none⟩) rs rg
  rows : Bsb wr B m B n k D
theorem CL.below {w wr w' : World} {B n k rg rl rc : Nat} {pc : Int} {ma : Option Addr} {mc : Nat} {rs : List Int} {D : Nat → List Int} {m : Nat} (h : CL w wr B n k rg rl rc pc ma mc rs D m) (hb : Below wr.heap.size wr w') : CL w w' B n k rg rl rc pc ma mc rs D m :=
  ⟨h.bel.trans (hb.mono h.bel.size), h.b0.below hb, h.b1.below hb, h.low, h.regs.below hb, h.rows.below hb⟩
theorem CL.put {w wr w5 : World} {B n k rg rl rc : Nat} {pc : Int} {ma : Option Addr} {mc : Nat} {rs : List Int} {D : Nat → List Int} {m : Nat} (h : CL w wr B n k rg rl rc pc ma mc rs D m) (hk : k < n) (hb : Below wr.heap.size wr w5) (g cap : Nat) (hon : ON .u8 w5 wr.heap.size w5.heap.size (some ⟨g, 0, none⟩) (D k) g) (hc : (D k).length ≤ cap) :
    CL w (w5.setCell ⟨B, k, none⟩ (.slice (some ⟨g, 0, none⟩) (D k).length cap)) B n (k + 1) rg rl rc pc ma mc rs D w5.heap.size := by
  have h5 := h.below hb
  have hlow := h.low
  have hm := h.rows.mle
  have hBm := h.rows.lt
  have hbt : Betw B (B + 1) w5 (w5.setCell ⟨B, k, none⟩ (.slice (some ⟨g, 0, none⟩) (D k).length cap)) := (Betw.refl _ _ _).setCell (p := ⟨B, k, none⟩) (Nat.le_refl _) (Nat.lt_succ_self _) _
  refine ⟨h5.bel.trans (hbt.below (by omega) h5.bel.size), h5.b0.other _ _ _ (by omega), h5.b1.other _ _ _ (by omega), hlow, h5.regs.betw hbt (fun h0 => by have := h5.regs.range h0; omega), ?_⟩
  exact h5.rows.put hk (some ⟨g, 0, none⟩) cap g w5.heap.size (fun h0 => by have := hon.range h0; omega) (hon.wide (by omega) (Nat.le_refl _)) hc (Nat.le_trans hm hb.size) (Nat.le_refl _)
theorem copy_facts {w w0 w1 : World} {cs cs' : Array Value} {g : Nat} {rs : List Int} (h0 : Bk w0 w.heap.size cs) (h1 : Bk w0 (w.heap.size + 1) cs') (hb : Below w.heap.size w w0) (hb1 : Below (w.heap.size + 1 + 1) w0 w1) (hon : ON .u32 w1 (w.heap.size + 1 + 1) w1.heap.size (some ⟨g, 0, none⟩) rs g) (hz : w.heap.size + 1 + 1 < w0.heap.size) :
    Bk w1 w.heap.size cs ∧ Bk w1 (w.heap.size + 1) cs' ∧ Below w.heap.size w w1 ∧ ON .u32 w1 (w.heap.size + 1 + 1) w1.heap.size (some ⟨g, 0, none⟩) rs g ∧ w.heap.size + 1 + 1 < w1.heap.size :=
  ⟨h0.low hb1 (by omega), h1.low hb1 (by omega), hb.trans (hb1.mono (by omega)), hon, Nat.lt_of_lt_of_le hz hb1.size⟩
theorem CL.start {w w1 : World} {ra ma : Option Addr} {rl0 rc0 n mc g : Nat} {pc : Int} {rs : List Int} {D : Nat → List Int} (h0 : Bk w1 w.heap.size #[.slice ra rl0 rc0, .int .u32 pc, .slice ma n mc]) (h1 : Bk w1 (w.heap.size + 1) #[.slice none 0 0, .int .u32 0, .slice none 0 0]) (hb : Below w.heap.size w w1) (hon : ON .u32 w1 (w.heap.size + 1 + 1) w1.heap.size (some ⟨g, 0, none⟩) rs g) (hz : w.heap.size + 1 + 1 < w1.heap.size) (rl rc : Nat) :
    CL w ((w1.setCell ⟨w.heap.size, 0, none⟩ (.slice (some ⟨g, 0, none⟩) rl rc)).alloc (.cells (madeCells #[.slice none 0 0] n) 61)) w1.heap.size n 0 g rl rc pc ma mc rs D (w1.heap.size + 1) := by
  have hbt : Betw w.heap.size (w.heap.size + 1) w1 (w1.setCell ⟨w.heap.size, 0, none⟩ (.slice (some ⟨g, 0, none⟩) rl rc)) := (Betw.refl _ _ _).setCell (p := ⟨w.heap.size, 0, none⟩) (Nat.le_refl _) (Nat.lt_succ_self _) _
  have hsz : (w1.setCell ⟨w.heap.size, 0, none⟩ (.slice (some ⟨g, 0, none⟩) rl rc)).heap.size = w1.heap.size := by simp
  have hal : Below (w1.setCell ⟨w.heap.size, 0, none⟩ (.slice (some ⟨g, 0, none⟩) rl rc)).heap.size (w1.setCell ⟨w.heap.size, 0, none⟩ (.slice (some ⟨g, 0, none⟩) rl rc)) ((w1.setCell ⟨w.heap.size, 0, none⟩ (.slice (some ⟨g, 0, none⟩) rl rc)).alloc (.cells (madeCells #[.slice none 0 0] n) 61)) := (Below.refl _ _).alloc (Nat.le_refl _) _
  have hbs := hb.trans (hbt.below (Nat.le_refl _) hb.size)
  have hmd := Bsb.made (w1.setCell ⟨w.heap.size, 0, none⟩ (.slice (some ⟨g, 0, none⟩) rl rc)) n 61 D
  rw [hsz] at hmd
  exact ⟨hbs.trans (hal.mono hbs.size), (h0.set 0 _ (by simp) rfl).below hal, (h1.other _ _ _ (by omega)).below hal, by omega, (hon.betw hbt (fun h0 => by have := hon.range h0; omega)).below hal, hmd⟩
set_option maxHeartbeats 4000000 in
theorem impl_copied (pc : Int) (ra ma : Option Addr) (rl rc n mc : Nat) (rs : List Int) (D : Nat → List Int) (w : World) (hs : GSeg w ra ma rs n D) (hl : rs.length = rl) (hr : rl ≤ 1048576) (hn : n ≤ 1048576) (ht : btot D n ≤ 1048576) :
    Calls Tryz.prog 26 #[gst ra rl rc pc ma n mc] w (CopyP w pc rl n rs D) := by
  have HS : Hid (GSeg w ra ma rs n D ∧ rs.length = rl ∧ btot D n ≤ 1048576) := ⟨hs, hl, ht⟩
  clear hs hl ht
  have hmk := run_make_rows n hn
  have HB : Hid (Below w.heap.size w ((w.alloc (.cells #[.slice ra rl rc, .int .u32 pc, .slice ma n mc] 30)).alloc (.cells #[.slice none 0 0, .int .u32 0, .slice none 0 0] 30))) := ((Below.refl _ w).alloc (Nat.le_refl _) _).alloc (by simp) _
  have B0 : Bk ((w.alloc (.cells #[.slice ra rl rc, .int .u32 pc, .slice ma n mc] 30)).alloc (.cells #[.slice none 0 0, .int .u32 0, .slice none 0 0] 30)) w.heap.size #[.slice ra rl rc, .int .u32 pc, .slice ma n mc] := (Bk.new w _ 30 w.heap.size rfl).alloc _
  have B1 : Bk ((w.alloc (.cells #[.slice ra rl rc, .int .u32 pc, .slice ma n mc] 30)).alloc (.cells #[.slice none 0 0, .int .u32 0, .slice none 0 0] 30)) (w.heap.size + 1) #[.slice none 0 0, .int .u32 0, .slice none 0 0] := Bk.new _ _ 30 (w.heap.size + 1) (by simp)
  have hal : Below ((w.alloc (.cells #[.slice ra rl rc, .int .u32 pc, .slice ma n mc] 30)).alloc (.cells #[.slice none 0 0, .int .u32 0, .slice none 0 0] 30)).heap.size ((w.alloc (.cells #[.slice ra rl rc, .int .u32 pc, .slice ma n mc] 30)).alloc (.cells #[.slice none 0 0, .int .u32 0, .slice none 0 0] 30)) (((w.alloc (.cells #[.slice ra rl rc, .int .u32 pc, .slice ma n mc] 30)).alloc (.cells #[.slice none 0 0, .int .u32 0, .slice none 0 0] 30)).alloc (.cells #[] 24)) := (Below.refl _ _).alloc (Nat.le_refl _) _
  have HON : Hid _ := own_empty ((w.alloc (.cells #[.slice ra rl rc, .int .u32 pc, .slice ma n mc] 30)).alloc (.cells #[.slice none 0 0, .int .u32 0, .slice none 0 0] 30)) 24 (w.heap.size + 1 + 1) (by simp)
  have HSG : Hid (Seg .u32 (((w.alloc (.cells #[.slice ra rl rc, .int .u32 pc, .slice ma n mc] 30)).alloc (.cells #[.slice none 0 0, .int .u32 0, .slice none 0 0] 30)).alloc (.cells #[] 24)) ra rs) := HS.out.1.1.below (HB.out.trans (hal.mono HB.out.size))
  have HLE : Hid (w.heap.size + 1 + 1 ≤ (((w.alloc (.cells #[.slice ra rl rc, .int .u32 pc, .slice ma n mc] 30)).alloc (.cells #[.slice none 0 0, .int .u32 0, .slice none 0 0] 30)).alloc (.cells #[] 24)).heap.size) := by show _ ≤ _; simp
  have HBB : Hid (Bk (((w.alloc (.cells #[.slice ra rl rc, .int .u32 pc, .slice ma n mc] 30)).alloc (.cells #[.slice none 0 0, .int .u32 0, .slice none 0 0] 30)).alloc (.cells #[] 24)) w.heap.size #[.slice ra rl rc, .int .u32 pc, .slice ma n mc] ∧ Bk (((w.alloc (.cells #[.slice ra rl rc, .int .u32 pc, .slice ma n mc] 30)).alloc (.cells #[.slice none 0 0, .int .u32 0, .slice none 0 0] 30)).alloc (.cells #[] 24)) (w.heap.size + 1) #[.slice none 0 0, .int .u32 0, .slice none 0 0] ∧ Below w.heap.size w (((w.alloc (.cells #[.slice ra rl rc, .int .u32 pc, .slice ma n mc] 30)).alloc (.cells #[.slice none 0 0, .int .u32 0, .slice none 0 0] 30)).alloc (.cells #[] 24))) := ⟨B0.below hal, B1.below hal, HB.out.trans (hal.mono HB.out.size)⟩
  clear B0 B1 hal HB
  go_enter Tryz.func26, Tryz.ntmps26
  go_wp2_with (at_builtin; (refine wpList_copy_nums numU _ rfl (.tmp 6) (.tmp 8) 23 rfl Tryz.underlying23 (w.heap.size + 1 + 1) rs ra rl rc rfl rfl HS.out.2.1 HON.out HLE.out HSG.out hr ?_; intro g1 cp1 w1 hb1 hon1 hc1; have HY : Hid (Bk w1 w.heap.size _ ∧ Bk w1 (w.heap.size + 1) _ ∧ Below w.heap.size w w1 ∧ ON .u32 w1 (w.heap.size + 1 + 1) w1.heap.size (some ⟨g1, 0, none⟩) rs g1 ∧ w.heap.size + 1 + 1 < w1.heap.size) := copy_facts HBB.out.1 HBB.out.2.1 HBB.out.2.2 hb1 hon1 (by simp); clear hb1 hon1 hc1; have y0 := HY.out.1.cell 0 _ rfl; have yf := HY.out.1.free; have y2 := (HY.out.1.set 0 (.slice (some ⟨g1, 0, none⟩) rl cp1) (by simp) rfl).cell 2 _ rfl; have y3 := cell_alloc_l (.cells (madeCells #[.slice none 0 0] n) 61) y2))
  have HI : Hid (CL w ((w1.setCell ⟨w.heap.size, 0, none⟩ (.slice (some ⟨g1, 0, none⟩) rl cp1)).alloc (.cells (madeCells #[.slice none 0 0] n) 61)) w1.heap.size n 0 g1 rl cp1 pc ma mc rs D (w1.heap.size + 1)) := CL.start HY.out.1 HY.out.2.1 HY.out.2.2.1 HY.out.2.2.2.1 HY.out.2.2.2.2 rl cp1
  clear y0 yf y2 y3 HY HBB HSG HLE HON
  obtain ⟨W1, HW1⟩ : ∃ W1, Hid (W1 = (w1.setCell ⟨w.heap.size, 0, none⟩ (.slice (some ⟨g1, 0, none⟩) rl cp1)).alloc (.cells (madeCells #[.slice none 0 0] n) 61)) := ⟨_, rfl⟩
  rw [← HW1.out] at HI ⊢
  obtain ⟨B, HBe⟩ : ∃ B, Hid (w1.heap.size = B) := ⟨_, rfl⟩
  rw [HBe.out] at HI ⊢
  go_loopw [18] (fun i wr => ∃ k : Nat, k ≤ n ∧ i = .int .i64 k ∧ Hid (∃ m, CL w wr B n k g1 rl cp1 pc ma mc rs D m)) (fun i _ => n - (intOf i).toNat)
  case atStart => exact ⟨0, by omega, rfl, _, HI.out⟩
  case round =>
    obtain ⟨k, hk, rfl, HU⟩ := hrel
    clear HI HW1 HBe
    obtain ⟨m, hcl⟩ := HU.out
    by_cases hkn : k < n
    · have hkn' : (k : Int) < (n : Int) := by omega
      obtain ⟨b1, o1, a1, c1, rfl, hbl1, e1, s1⟩ := BSeg.at HS.out.1.2 k hkn
      replace e1 := (hcl.bel.cell (p := ⟨b1, o1 + k, none⟩) hbl1).trans e1
      have hlen : (D k).length ≤ 1048576 := Nat.le_trans (btot_row D hkn) HS.out.2.2
      have hal : Below wr.heap.size wr (wr.alloc (.cells #[] 5)) := (Below.refl _ _).alloc (Nat.le_refl _) _
      have HAL : Hid _ := hal
      have HSG : Hid (Seg .u8 (wr.alloc (.cells #[] 5)) a1 (D k)) := s1.below (hcl.bel.trans (hal.mono hcl.bel.size))
      have HON : Hid _ := own_empty wr 5 wr.heap.size rfl
      have HLE : Hid (wr.heap.size ≤ (wr.alloc (.cells #[] 5)).heap.size) := by show _ ≤ _; simp
      have HCL : Hid (CL w wr B n k g1 rl cp1 pc (some ⟨b1, o1, none⟩) mc rs D m) := hcl
      obtain ⟨len, Hlen⟩ : ∃ len, Hid ((D k).length = len) := ⟨_, rfl⟩
      rw [Hlen.out] at e1 hlen
      clear hcl HU s1 hbl1 hal
      go_wp2_with (at_builtin; (refine wpList_copy_nums numB _ rfl (.tmp 25) (.tmp 26) 61 rfl Tryz.underlying61 wr.heap.size (D k) a1 len c1 rfl rfl Hlen.out HON.out HLE.out HSG.out hlen ?_; intro g5 cp5 w5 hb5 hon5 hc5; have hbx := HAL.out.trans (hb5.mono (Nat.le_refl _)); have HZ : Hid (CL w (w5.setCell ⟨B, k, none⟩ (.slice (some ⟨g5, 0, none⟩) len cp5)) B n (k + 1) g1 rl cp1 pc (some ⟨b1, o1, none⟩) mc rs D w5.heap.size) := (by rw [← Hlen.out]; exact CL.put HCL.out hkn hbx g5 cp5 hon5 (by rw [Hlen.out]; exact hc5)); obtain ⟨u9, bu⟩ := (HCL.out.below hbx).rows.room k hkn; have bf := (HCL.out.below hbx).rows.free; clear hbx hb5 hon5 hc5))
      go_roundw
      case rel => exact ⟨k + 1, by omega, by go_num, _, HZ.out⟩
      case measure => simp [intOf]; omega
    · obtain rfl : k = n := by omega
      clear hkn HU
      have B0 := hcl.b0
      have F0 := B0.set 2 (.slice (some ⟨B, 0, none⟩) k k) (by simp) rfl
      have hlow := hcl.low
      have F1 := hcl.b1.other w.heap.size 2 (.slice (some ⟨B, 0, none⟩) k k) (by omega)
      have G0 := F1.set 0 (.slice (some ⟨g1, 0, none⟩) rl cp1) (by simp) rfl
      have G1 := G0.set 1 (.int .u32 pc) (by simp) rfl
      have G2 := G1.set 2 (.slice (some ⟨B, 0, none⟩) k k) (by simp) rfl
      have q2 := B0.cell 2 _ rfl
      have f0 := B0.free
      have f1 := hcl.b1.free
      have r0 := F0.cell 0 _ rfl
      have r1 := F0.cell 1 _ rfl
      have r2 := F0.cell 2 _ rfl
      have t0 := F1.cell 0 _ rfl
      have t1 := G0.cell 1 _ rfl
      have t2 := G1.cell 2 _ rfl
      have n0 := G2.cell 0 _ rfl
      have n1 := G2.cell 1 _ rfl
      have n2 := G2.cell 2 _ rfl
      have HCL : Hid (CL w wr B k k g1 rl cp1 pc ma mc rs D m) := hcl
      clear B0 F0 F1 G0 G1 G2 hcl
      go_wp2
      refine bodyPost_ret (v := gst (some ⟨g1, 0, none⟩) rl cp1 pc (some ⟨B, 0, none⟩) k k) (by simp [results, Tryz.results26, go_sem, n0, n1, n2]) rfl ⟨_, _, _, _, B, rfl, ?_, ?_, ?_, ?_⟩
      · exact (((HCL.out.bel.setCell (p := ⟨w.heap.size, 2, none⟩) (by simp) _).setCell (p := ⟨w.heap.size + 1, 0, none⟩) (by simp) _).setCell (p := ⟨w.heap.size + 1, 1, none⟩) (by simp) _).setCell (p := ⟨w.heap.size + 1, 2, none⟩) (by simp) _
      · have hbt := ((((Betw.refl w.heap.size (w.heap.size + 1 + 1) wr).setCell (p := ⟨w.heap.size, 2, none⟩) (by simp) (by simp; omega) (.slice (some ⟨B, 0, none⟩) k k)).setCell (p := ⟨w.heap.size + 1, 0, none⟩) (by simp) (by simp) (.slice (some ⟨g1, 0, none⟩) rl cp1)).setCell (p := ⟨w.heap.size + 1, 1, none⟩) (by simp) (by simp) (.int .u32 pc)).setCell (p := ⟨w.heap.size + 1, 2, none⟩) (by simp) (by simp) (.slice (some ⟨B, 0, none⟩) k k)
        have hm := HCL.out.rows.mle
        have hreg : ON .u32 wr (w.heap.size + 1 + 1) B (some ⟨g1, 0, none⟩) rs g1 := HCL.out.regs
        exact ⟨⟨g1, (hreg.betw hbt (fun h0 => .inr (hreg.range h0).1)).wide (by omega) (Nat.le_refl _)⟩, (HCL.out.rows.rows'.betw hbt (.inr (by omega))).wide (Nat.le_refl _) (by simpa using hm)⟩
      · omega
      · have := HCL.out.rows.lt; have := HCL.out.rows.mle; simp; omega
end Go.Proofs.YtfdjfjkbbfcodaaGreatDoor
