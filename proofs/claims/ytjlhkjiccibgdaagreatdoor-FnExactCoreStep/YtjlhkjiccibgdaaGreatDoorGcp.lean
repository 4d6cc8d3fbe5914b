/-
  A whole slice of numbers copied by 'append' to an empty list of the call's own, the slice nil, empty or not. Conditions: at most 1048576 numbers.
  Rows of bytes that are appended to a list of the call's own, one after another: plain facts on worlds. No conditions but those that each fact names.
  A guest's copy, by the program: a guest of the call's own that reads as the one that came in. Conditions: registers, rows and bytes are at most 1048576 together.
-/
import Derived.Test.YtjlhkjiccibgdaaGreatDoorProg
import Derived.Test.YtjlhkjiccibgdaaGreatDoorGst
import Derived.Test.YtjlhkjiccibgdaaGreatDoorWnl
import Derived.Test.YtjlhkjiccibgdaaGreatDoorCpl
import Derived.Test.YtjlhkjiccibgdaaGreatDoorRgi
import Derived.Deep.AppendLies
import Derived.Deep.RegionHeldLaw
import Derived.OwnWalk
namespace Go.Proofs.YtjlhkjiccibgdaaGreatDoor
open Go.ChangeShapes Go.WideShapes Go.ChangeAt Go.RowKit Go.Deep
set_option linter.unusedVariables false

theorem grown_below {w w' : World} {row : Option Nat} {B : Nat} (h : w.grownBy w' row) (hr : ∀ g, row = some g → B ≤ g) (hB : B ≤ w.heap.size) : Below B w w' :=
  ⟨h.os, h.tape, h.output, h.size, fun k hk => h.block k (by omega) (fun e => by have := hr k e.symm; omega)⟩
theorem grown_betw {w w' : World} {B : Nat} (h : w.grownBy w' (some B)) : Betw B (B + 1) w w' :=
  ⟨h.os, h.tape, h.output, h.size, fun k hk ho => h.block k hk (fun e => by injection e with e; omega)⟩

theorem nums_one (k : IntKind) (zs : List Int) : ∀ u ∈ zs.map (Value.int k), u.oneCell' = true := by
  intro u hu
  obtain ⟨z, _, rfl⟩ := List.mem_map.1 hu
  rfl
theorem news_nums {k : IntKind} {w : World} {b off : Nat} {zs : List Int} (hc : ∀ i, i < zs.length → w.cell? ⟨b, off + i, none⟩ = some (.int k (zs.getD i 0))) :
    ∀ j u, (zs.map (Value.int k))[j]? = some u → w.cell? ((⟨b, off, none⟩ : Addr).add j) = some u := fun j u e => by
  rw [add_plain]
  rw [List.getElem?_map] at e
  obtain ⟨z, hz, rfl⟩ := Option.map_eq_some_iff.1 e
  have hj : j < zs.length := by
    rcases Nat.lt_or_ge j zs.length with g | g
    · exact g
    · rw [List.getElem?_eq_none g] at hz; cases hz
  rw [hc j hj]
  simp [List.getD, hz]
/-- The element type 'E' is a number of kind 'k'. -/
structure NumT (k : IntKind) (E : TypeId) (bytes : Nat) : Prop where
  info : (Tryz.prog.info? E).map (fun i => (i.zero, i.size, i.bytes)) = some (some (.int k 0), 1, bytes)
  small : bytes ≤ 8
theorem numU : NumT .u32 24 4 := ⟨infoU, by omega⟩
theorem numB : NumT .u8 5 1 := ⟨infoB, by omega⟩
theorem own_empty (w : World) (E : TypeId) (B : Nat) (hB : B = w.heap.size) : (w.alloc (.cells #[] E)).ownsRow B E 1 (.slice (some ⟨B, 0, none⟩) 0 0) 0 [] := by
  subst hB
  exact ⟨rfl, .inr ⟨w.heap.size, 0, #[], rfl, Nat.le_refl _, by show (w.heap.push _)[w.heap.size]? = _; simp, Nat.le_refl _, by simp, rfl, rfl⟩⟩
theorem on_of_owns {k : IntKind} {E : TypeId} {w : World} {base : Nat} {v : Value} {zs : List Int} (h : w.ownsRow base E 1 v zs.length (zs.map (Value.int k))) (hv : v ≠ .slice none 0 0) : ∃ g cap, v = .slice (some ⟨g, 0, none⟩) zs.length cap ∧ zs.length ≤ cap ∧ ON k w base w.heap.size (some ⟨g, 0, none⟩) zs g := by
  rcases h.2 with ⟨h0, h1⟩ | ⟨g, cap, cur, rfl, hb, hg, h1, h2, h3, h4⟩
  · exact absurd h0 hv
  · have hlt : g < w.heap.size := by
      rcases Nat.lt_or_ge g w.heap.size with hlt | hge
      · exact hlt
      · rw [Array.getElem?_eq_none hge] at hg; cases hg
    refine ⟨g, cap, rfl, h1, fun h0 => ⟨0, rfl, hb, hlt, hlt, fun i hi => ?_, fun i => by simp [World.frozen?, hg]⟩⟩
    rw [Nat.zero_add]
    have e : cur[i]? = some (.int k (zs.getD i 0)) := by
      have := congrArg (·[i]?) h4
      simp only [Nat.mul_one] at this
      rw [List.getElem?_take, if_pos hi] at this
      simpa [hi, List.getD] using this
    simp [World.cell?, hg, e]
theorem run_copy_nums {k : IntKind} {E : TypeId} {bytes : Nat} (hN : NumT k E bytes) (t ty : TypeId) (ht : Tryz.prog.underlying t = some (.slice E)) (w : World) (B : Nat) (zs : List Int) (a : Option Addr) (c : Nat)
    (hown : w.ownsRow B E 1 (.slice (some ⟨B, 0, none⟩) 0 0) 0 []) (hBw : B ≤ w.heap.size) (hs : Seg k w a zs) (hn : zs.length ≤ 1048576) :
    ∃ g cap w', (Builtin.append_ #[t, t] ty #[.slice (some ⟨B, 0, none⟩) 0 0, .slice a zs.length c]).run Tryz.prog w = .ok (.slice (some ⟨g, 0, none⟩) zs.length cap) w' ∧ (Below B w w' ∧ Betw B (B + 1) w w' ∧ (g = B ∨ g = w.heap.size)) ∧ ON k w' B w'.heap.size (some ⟨g, 0, none⟩) zs g ∧ zs.length ≤ cap := by
  obtain ⟨iW, hi1, hi⟩ := Option.map_eq_some_iff.1 hN.info
  simp only [Prod.mk.injEq] at hi
  obtain ⟨hi2, hi3, hi4⟩ := hi
  have hsm := hN.small
  have key : ∀ ad : Addr, (∀ j u, (zs.map (Value.int k))[j]? = some u → w.cell? (ad.add j) = some u) → ∃ g cap w', (Builtin.append_ #[t, t] ty #[.slice (some ⟨B, 0, none⟩) 0 0, .slice (some ad) zs.length c]).run Tryz.prog w = .ok (.slice (some ⟨g, 0, none⟩) zs.length cap) w' ∧ (Below B w w' ∧ Betw B (B + 1) w w' ∧ (g = B ∨ g = w.heap.size)) ∧ ON k w' B w'.heap.size (some ⟨g, 0, none⟩) zs g ∧ zs.length ≤ cap := fun ad hnews => by
    obtain ⟨v', w', hr, h2, h3, h4, h5⟩ := run_append_own_at (P := Tryz.prog) w B t ty E iW _ 1 bytes ht hi1 hi2 hi3 hi4 rfl (by omega) (.slice (some ⟨B, 0, none⟩) 0 0) 0 [] hown ad zs.length c (zs.map (Value.int k)) (by simp) hnews (nums_one k zs) (by unfold maxLen; omega) (by
      have : (0 + zs.length) * bytes ≤ 1048576 * 8 := Nat.mul_le_mul (by omega) hsm
      omega) hBw
    simp only [Nat.zero_add, List.nil_append] at h2
    obtain ⟨g, cap, rfl, hc, hon⟩ := on_of_owns h2 (fun e => by have := (h4.1 e).1; cases this)
    exact ⟨g, cap, w', hr, ⟨grown_below h3 (fun g e => by simp only [Value.ownBlock, Option.some.injEq] at e; omega) hBw, grown_betw h3, by simpa [Value.ownBlock] using h5⟩, hon, hc⟩
  cases a with
  | some ad =>
    by_cases h0 : 0 < zs.length
    · obtain ⟨b, off, e, hlt, hc⟩ := hs h0
      cases e
      exact key _ (news_nums hc)
    · have : zs = [] := List.eq_nil_of_length_eq_zero (by omega)
      subst this
      exact key ad (fun j u e => by simp at e)
  | none =>
    by_cases h0 : 0 < zs.length
    · obtain ⟨b, off, e, hlt, hc⟩ := hs h0
      cases e
    · have : zs = [] := List.eq_nil_of_length_eq_zero (by omega)
      subst this
      have key' := key ⟨0, 0, none⟩ (fun j u e => by simp at e)
      have heq : (Builtin.append_ #[t, t] ty #[.slice (some ⟨B, 0, none⟩) 0 0, .slice none 0 c]).run Tryz.prog w = (Builtin.append_ #[t, t] ty #[.slice (some ⟨B, 0, none⟩) 0 0, .slice (some ⟨0, 0, none⟩) 0 c]).run Tryz.prog w := by
        simp [Builtin.append_, run_underlying ht, sizeOf, typeInfo, hi1, Builtin.lenOf, Builtin.firstCells, loadCells, loadCellsFrom]
      simp only [List.length_nil] at key' ⊢
      rw [heq]
      exact key'
/-- At a step of a region that draws its order. -/
theorem step_copy_nums {ops : Array Oper} {o : Oper} {ac : Act} {K : Act → World → Prop} {Q : Exit → Act → World → Prop} {P0 : Prop} {k : IntKind} {E : TypeId} {bytes : Nat} (hN : NumT k E bytes) (w : World) (hgd : o.guard = none) (s x : Operand) (t : TypeId)
    (ho : o.op = .call { callee := .builtin .append, args := #[s, x], argTypes := #[t, t] }) (ht : Tryz.prog.underlying t = some (.slice E))
    (B : Nat) (zs : List Int) (a : Option Addr) (n c : Nat) (hsv : ac.eval s = .slice (some ⟨B, 0, none⟩) 0 0) (hxv : ac.eval x = .slice a n c) (hl : zs.length = n)
    (hown : w.ownsRow B E 1 (.slice (some ⟨B, 0, none⟩) 0 0) 0 []) (hBw : B ≤ w.heap.size) (hs : Seg k w a zs) (hn : n ≤ 1048576) (d : Option Nat) (hd : o.dst = d)
    (h : ∀ g cap w', Betw B (B + 1) w w' → (g = B ∨ g = w.heap.size) → ON k w' B w'.heap.size (some ⟨g, 0, none⟩) zs g → n ≤ cap → K (ac.put d (.slice (some ⟨g, 0, none⟩) n cap)) w') :
    if Region.wanted o (yielded ops ac.tmps) = true then Oper.wp Tryz.prog o ac w K Q else P0 := by
  have hw : Region.wanted o (yielded ops ac.tmps) = true := by simp [Region.wanted, hgd]
  rw [if_pos hw]
  subst hl hd
  obtain ⟨g, cap, w', hr, h2, h3, h4⟩ := run_copy_nums hN t o.type ht w B zs a c hown hBw hs hn
  unfold Oper.wp execOp
  simp only [ho, resolve, invoke, builtin, Sem.run_bind, Sem.run_pure, Result.andThen_ok, List.map_toArray, List.map_cons, List.map_nil, hsv, hxv, hr]
  exact h g cap w' h2.2.1 h2.2.2 h3 h4
/-- At an operation that is run in its turn. -/
theorem wpList_copy_nums {ops : Array Oper} {rest : List Oper} {o : Oper} {ac : Act} {Q : Exit → Act → World → Prop} {k : IntKind} {E : TypeId} {bytes : Nat} (hN : NumT k E bytes) (w : World) (hg : o.guard = none) (s x : Operand) (t : TypeId)
    (ho : o.op = .call { callee := .builtin .append, args := #[s, x], argTypes := #[t, t] }) (ht : Tryz.prog.underlying t = some (.slice E))
    (B : Nat) (zs : List Int) (a : Option Addr) (n c : Nat) (hsv : ac.eval s = .slice (some ⟨B, 0, none⟩) 0 0) (hxv : ac.eval x = .slice a n c) (hl : zs.length = n)
    (hown : w.ownsRow B E 1 (.slice (some ⟨B, 0, none⟩) 0 0) 0 []) (hBw : B ≤ w.heap.size) (hs : Seg k w a zs) (hn : n ≤ 1048576)
    (h : ∀ g cap w', Below B w w' → ON k w' B w'.heap.size (some ⟨g, 0, none⟩) zs g → n ≤ cap → wpList Tryz.prog ops Q rest (ac.put o.dst (.slice (some ⟨g, 0, none⟩) n cap)) w') :
    wpList Tryz.prog ops Q (o :: rest) ac w := by
  refine wpList_plain hg fun K' hK' => ?_
  subst hl
  obtain ⟨g, cap, w', hr, h2, h3, h4⟩ := run_copy_nums hN t o.type ht w B zs a c hown hBw hs hn
  unfold Oper.wp execOp
  simp only [ho, resolve, invoke, builtin, Sem.run_bind, Sem.run_pure, Result.andThen_ok, List.map_toArray, List.map_cons, List.map_nil, hsv, hxv, hr]
  exact hK' _ _ (h g cap w' h2.1 h3 h4)
end Go.Proofs.YtjlhkjiccibgdaaGreatDoor
namespace Go.Proofs.YtjlhkjiccibgdaaGreatDoor
open Go.ChangeShapes Go.WideShapes Go.ChangeAt Go.RowKit Go.Deep
set_option linter.unusedVariables false

theorem infoR' : ∃ i, Tryz.prog.info? 61 = some i ∧ i.zero = some (.slice none 0 0) ∧ i.size = 1 ∧ i.bytes = 24 := by
  obtain ⟨i, hi, h⟩ := Option.map_eq_some_iff.1 infoR
  simp only [Prod.mk.injEq] at h
  exact ⟨i, hi, h.1, h.2.1, h.2.2⟩
theorem news_at (w : World) (v : Value) (T : TypeId) (B : Nat) (hB : B = w.heap.size) : ∀ j u, [v][j]? = some u → (w.alloc (.cells #[v] T)).cell? ((⟨B, 0, none⟩ : Addr).add j) = some u := by
  subst hB
  exact World.news_of_block (cs := #[v]) (t := T) (fr := (0, 0)) (by show (w.heap.push _)[w.heap.size]? = _; simp)
theorem one_slice (a : Option Addr) (n c : Nat) : ∀ u ∈ [Value.slice a n c], u.oneCell' = true := by
  intro u hu
  simp only [List.mem_singleton] at hu
  subst hu
  rfl
theorem ON.grown {k : IntKind} {w w' : World} {lo hi : Nat} {a : Option Addr} {ws : List Int} {R : Nat} {row : Option Nat} (h : ON k w lo hi a ws R) (hg : w.grownBy w' row) (hne : 0 < ws.length → row ≠ some R) : ON k w' lo hi a ws R := fun h0 => by
  obtain ⟨off, e, h1, h2, hlt, hc, hf⟩ := h h0
  have hb := hg.block R hlt (fun e => hne h0 e.symm)
  have hcell : ∀ q, w'.cell? ⟨R, q, none⟩ = w.cell? ⟨R, q, none⟩ := fun q => World.cell?_of_block (a := ⟨R, q, none⟩) hb
  exact ⟨off, e, h1, h2, Nat.lt_of_lt_of_le hlt hg.size, fun i hi => (hcell _).trans (hc i hi), fun j => (World.frozen?_of_block (a := ⟨R, j, none⟩) hb).trans (hf j)⟩
theorem ownsRow_betw {w w' : World} {base lo hi : Nat} {e : TypeId} {size : Nat} {v : Value} {n : Nat} {xs : List Value} (h : w.ownsRow base e size v n xs) (hb : Betw lo hi w w') (ho : hi ≤ base) : w'.ownsRow base e size v n xs := by
  refine ⟨h.1, ?_⟩
  rcases h.2 with hn | ⟨g, cap, cur, rfl, hbs, hgg, rest⟩
  · exact .inl hn
  · refine .inr ⟨g, cap, cur, rfl, hbs, ?_, rest⟩
    have hlt : g < w.heap.size := by
      rcases Nat.lt_or_ge g w.heap.size with hlt | hge
      · exact hlt
      · rw [Array.getElem?_eq_none hge] at hgg; cases hgg
    rw [hb.block g hlt (by omega)]
    exact hgg
theorem own_low {w : World} {lo : Nat} {e : TypeId} {size : Nat} {v : Value} {n : Nat} {xs : List Value} (h : w.ownsRow lo e size v n xs) : ∀ g, v.ownBlock = some g → lo ≤ g := by
  rcases h.2 with ⟨h0, h1⟩ | ⟨g, cap, cur, rfl, hb, hg, h1, h2, h3, h4⟩
  · subst h0; intro k hk; cases hk
  · intro k hk; cases hk; exact hb
theorem Bk.grown {w w' : World} {b lo : Nat} {cs : Array Value} {row : Option Nat} (h : Bk w b cs) (hg : w.grownBy w' row) (hne : ∀ g, row = some g → lo ≤ g) (hb : b < lo) : Bk w' b cs := by
  have hk := hg.block b h.lt (fun e => by have := hne b e.symm; omega)
  exact ⟨Nat.lt_of_lt_of_le h.lt hg.size, fun i v e => (World.cell?_of_block (a := ⟨b, i, none⟩) hk).trans (h.cell i v e), fun i => (World.frozen?_of_block (a := ⟨b, i, none⟩) hk).trans (h.free i)⟩
def browCells (A : Nat → Option Addr) (C : Nat → Nat) (D : Nat → List Int) (k : Nat) : List Value := (List.range k).map fun i => .slice (A i) (D i).length (C i)
/-- k rows have been appended; their blocks, and that of the list, lie below 'm'. -/
structure Bla (w : World) (lo m : Nat) (v : Value) (k : Nat) (D : Nat → List Int) (A : Nat → Option Addr) (C R : Nat → Nat) : Prop where
  mle : m ≤ w.heap.size
  own : w.ownsRow lo 61 1 v k (browCells A C D k)
  blk : ∀ g, v.ownBlock = some g → g < m
  room : ∀ i, i < k → (D i).length ≤ C i
  row : ∀ i, i < k → ON .u8 w lo m (A i) (D i) (R i)
  base : ∀ i, i < k → 0 < (D i).length → v.ownBlock ≠ some (R i)
  apart : ∀ i j, i < k → j < k → i ≠ j → 0 < (D i).length → 0 < (D j).length → R i ≠ R j
theorem Bla.none (w : World) (lo m : Nat) (D : Nat → List Int) (A : Nat → Option Addr) (C R : Nat → Nat) (hm : m ≤ w.heap.size) : Bla w lo m (.slice none 0 0) 0 D A C R :=
  ⟨hm, ⟨by simp [browCells], .inl ⟨rfl, rfl⟩⟩, fun g h => by simp [Value.ownBlock] at h, fun i hi => absurd hi (by omega), fun i hi => absurd hi (by omega), fun i hi => absurd hi (by omega), fun i j hi => absurd hi (by omega)⟩
theorem Bla.below {w w' : World} {lo m : Nat} {v : Value} {k : Nat} {D : Nat → List Int} {A : Nat → Option Addr} {C R : Nat → Nat} (h : Bla w lo m v k D A C R) (hb : Below w.heap.size w w') : Bla w' lo m v k D A C R :=
  ⟨Nat.le_trans h.mle hb.size, ownsRow_below h.own hb, h.blk, h.room, fun i hi => (h.row i hi).below hb, h.base, h.apart⟩
theorem Bla.betw {w w' : World} {lo m l' h' : Nat} {v : Value} {k : Nat} {D : Nat → List Int} {A : Nat → Option Addr} {C R : Nat → Nat} (h : Bla w lo m v k D A C R) (hb : Betw l' h' w w') (ho : h' ≤ lo) : Bla w' lo m v k D A C R :=
  ⟨Nat.le_trans h.mle hb.size, ownsRow_betw h.own hb ho, h.blk, h.room, fun i hi => (h.row i hi).betw hb (fun h0 => by obtain ⟨_, _, g, _⟩ := h.row i hi h0; omega), h.base, h.apart⟩
theorem Bla.step {w w' : World} {lo m : Nat} {v : Value} {k : Nat} {D : Nat → List Int} {A : Nat → Option Addr} {C R : Nat → Nat} (h : Bla w lo m v k D A C R) (a : Option Addr) (ca Rk H g cap : Nat)
    (how : ON .u8 w lo w.heap.size a (D k) Rk) (hR : 0 < (D k).length → m ≤ Rk) (hca : (D k).length ≤ ca) (hown : w'.ownsRow lo 61 1 (.slice (some ⟨g, 0, .none⟩) (k + 1) cap) (k + 1) (browCells A C D k ++ [.slice a (D k).length ca]))
    (hgrow : w.grownBy w' v.ownBlock) (hat : v.ownBlock = some g ∨ g = H) (hH : w.heap.size = H) (hg : g < w'.heap.size) :
    Bla w' lo w'.heap.size (.slice (some ⟨g, 0, .none⟩) (k + 1) cap) (k + 1) D (fun i => if i = k then a else A i) (fun i => if i = k then ca else C i) (fun i => if i = k then Rk else R i) := by
  have hsz := hgrow.size
  have hm := h.mle
  have hRk : 0 < (D k).length → Rk < w.heap.size := fun h0 => by obtain ⟨_, _, _, g2, _⟩ := how h0; exact g2
  have hcells : browCells (fun i => if i = k then a else A i) (fun i => if i = k then ca else C i) D (k + 1) = browCells A C D k ++ [.slice a (D k).length ca] := by
    unfold browCells
    rw [List.range_succ, List.map_append]
    congr 1
    · refine List.map_congr_left fun i hi => ?_
      have : i ≠ k := by have := List.mem_range.1 hi; omega
      simp [this]
    · simp
  refine ⟨Nat.le_refl _, by rw [hcells]; exact hown, fun g' e => by simp only [Value.ownBlock, Option.some.injEq] at e; omega, fun i hi => ?_, fun i hi => ?_, fun i hi h0 => ?_, fun i j hi hj hne hi0 hj0 => ?_⟩
  · by_cases e : i = k
    · subst e; simp only [if_pos]; exact hca
    · simp only [if_neg e]; exact h.room i (by omega)
  · by_cases e : i = k
    · subst e
      simp only [if_pos]
      refine (how.grown hgrow (fun h0 c => ?_)).wide (Nat.le_refl _) hsz
      have := h.blk _ c
      have := hR h0
      omega
    · simp only [if_neg e]
      exact ((h.row i (by omega)).grown hgrow (fun h0 => h.base i (by omega) h0)).wide (Nat.le_refl _) (by omega)
  · intro c
    simp only [Value.ownBlock, Option.some.injEq] at c
    by_cases e : i = k
    · subst e
      simp only [if_pos] at c
      rcases hat with hat | hat
      · have := h.blk _ hat; have := hR h0; omega
      · have := hRk h0; omega
    · simp only [if_neg e] at c
      rcases hat with hat | hat
      · exact h.base i (by omega) h0 (by rw [hat, c])
      · obtain ⟨_, _, _, g2, _⟩ := h.row i (by omega) h0; omega
  · by_cases e : i = k
    · have e2 : j ≠ k := by omega
      rw [e] at hi0
      obtain ⟨_, _, _, g2, _⟩ := h.row j (by omega) hj0
      simp only [if_pos e, if_neg e2]
      have := hR hi0; omega
    · by_cases e2 : j = k
      · rw [e2] at hj0
        obtain ⟨_, _, _, g2, _⟩ := h.row i (by omega) hi0
        simp only [if_neg e, if_pos e2]
        have := hR hj0; omega
      · simp only [if_neg e, if_neg e2]
        exact h.apart i j (by omega) (by omega) hne hi0 hj0
theorem Bla.rows {w : World} {lo m : Nat} {v : Value} {k : Nat} {D : Nat → List Int} {A : Nat → Option Addr} {C R : Nat → Nat} (h : Bla w lo m v k D A C R) : ∃ a cap, v = .slice a k cap ∧ BRows w lo m a k D := by
  rcases h.own.2 with ⟨h0, h1⟩ | ⟨g, cap, cur, hv, hbs, hgg, h1, h2, h3, h4⟩
  · subst h1
    exact ⟨.none, 0, h0, 0, 0, A, C, R, fun h => absurd h (by omega), ⟨fun i hi => absurd hi (by omega), fun i hi => absurd hi (by omega), fun i hi => absurd hi (by omega), fun i hi => absurd hi (by omega), fun i j hi => absurd hi (by omega)⟩⟩
  · have hgm := h.blk g (by rw [hv]; rfl)
    have hlt : g < w.heap.size := Nat.lt_of_lt_of_le hgm h.mle
    refine ⟨_, cap, hv, g, 0, A, C, R, fun _ => ⟨rfl, hbs, hgm, hlt⟩, ⟨fun i hi => ?_, h.room, h.row, fun i hi h0 e => h.base i hi h0 (by rw [hv, e]; rfl), h.apart⟩⟩
    rw [Nat.zero_add]
    have e : cur[i]? = some (.slice (A i) (D i).length (C i)) := by
      have := congrArg (·[i]?) h4
      simp only [Nat.mul_one] at this
      rw [List.getElem?_take, if_pos hi] at this
      simpa [browCells, hi] using this
    simp [World.cell?, hgg, e]
theorem Bla.form {w : World} {lo m : Nat} {v : Value} {k : Nat} {D : Nat → List Int} {A : Nat → Option Addr} {C R : Nat → Nat} (h : Bla w lo m v k D A C R) : ∃ a cap, v = .slice a k cap := by
  obtain ⟨a, cap, e, _⟩ := h.rows
  exact ⟨a, cap, e⟩
end Go.Proofs.YtjlhkjiccibgdaaGreatDoor
namespace Go.Proofs.YtjlhkjiccibgdaaGreatDoor
open Go.ChangeShapes Go.WideShapes Go.ChangeAt Go.RowKit Go.Deep
set_option linter.unusedVariables false

theorem Bk.low {w w' : World} {b B : Nat} {cs : Array Value} (h : Bk w b cs) (hb : Below B w w') (hlt : b < B) : Bk w' b cs :=
  ⟨Nat.lt_of_lt_of_le h.lt hb.size, fun i v e => (World.cell?_of_block (a := ⟨b, i, none⟩) (hb.block b hlt)).trans (h.cell i v e), fun i => (World.frozen?_of_block (a := ⟨b, i, none⟩) (hb.block b hlt)).trans (h.free i)⟩
/-- What a copy tells. -/
def CopyP (X : World) (pc : Int) (rl n : Nat) (rs : List Int) (D : Nat → List Int) (e : Ending) (w' : World) : Prop :=
  ∃ ra' ma' rc' mc' m, e = .returned (gst ra' rl rc' pc ma' n mc') ∧ Below X.heap.size X w' ∧ OGst w' X.heap.size m w'.heap.size ra' ma' rs n D ∧ X.heap.size ≤ m ∧ m ≤ w'.heap.size
/-- What stands while a guest is copied. -/
structure G3 (w w' : World) (pc : Int) (ra ma : Option Addr) (rl rc n mc : Nat) (rs : List Int) (D : Nat → List Int) (b0 b1 b2 b3 b4 b5 b6 b7 b8 b9 : Bool) (x3 x4 x5 x6 x7 x8 x9 x10 : Value) : Prop where
  bel : Below w.heap.size w w'
  hsz : w.heap.size + 2 ≤ w'.heap.size
  bk : ∃ c0 c2, Bk w' w.heap.size #[c0, .int .u32 pc, c2] ∧ (b7 = false → c0 = .slice ra rl rc) ∧ (b7 = true → c0 = x5) ∧ (b9 = false → c2 = .slice ma n mc) ∧ (b9 = true → c2 = x8)
  bz : Bk w' (w.heap.size + 1) #[.slice none 0 0, .int .u32 0, .slice none 0 0]
  f0 : b0 = true → x3 = .pointer (some ⟨w.heap.size, 0, none⟩)
  f1 : b1 = true → x4 = .slice ra rl rc
  f2 : b2 = true → b1 = true ∧ ∃ g, x5 = .slice (some ⟨g, 0, none⟩) rl rl ∧ w.heap.size + 2 ≤ g ∧ Own .u32 w' g rs
  f3 : b3 = true → x6 = .pointer (some ⟨w.heap.size, 2, none⟩)
  f4 : b4 = true → x7 = .slice ma n mc
  f5 : b5 = true → b4 = true ∧ b2 = true ∧ ∃ lo hi h, x8 = .slice (some ⟨h, 0, none⟩) n n ∧ (∀ g, x5 = .slice (some ⟨g, 0, none⟩) rl rl → g < lo) ∧ w.heap.size + 2 ≤ lo ∧ lo ≤ hi ∧ hi ≤ w'.heap.size ∧ BRows w' lo hi (some ⟨h, 0, none⟩) n D
  f6 : b6 = true → x9 = .pointer (some ⟨w.heap.size, 0, none⟩)
  f7 : b7 = true → b2 = true
  f8 : b8 = true → x10 = .pointer (some ⟨w.heap.size, 2, none⟩)
  f9 : b9 = true → b5 = true
theorem G3.below {w w' w'' : World} {pc : Int} {ra ma : Option Addr} {rl rc n mc : Nat} {rs : List Int} {D : Nat → List Int} {b0 b1 b2 b3 b4 b5 b6 b7 b8 b9 : Bool} {x3 x4 x5 x6 x7 x8 x9 x10 : Value} (h : G3 w w' pc ra ma rl rc n mc rs D b0 b1 b2 b3 b4 b5 b6 b7 b8 b9 x3 x4 x5 x6 x7 x8 x9 x10) (hb : Below w'.heap.size w' w'') : G3 w w'' pc ra ma rl rc n mc rs D b0 b1 b2 b3 b4 b5 b6 b7 b8 b9 x3 x4 x5 x6 x7 x8 x9 x10 :=
  ⟨h.bel.trans (hb.mono h.bel.size), Nat.le_trans h.hsz hb.size, by obtain ⟨c0, c2, h1, h2⟩ := h.bk; exact ⟨c0, c2, h1.below hb, h2⟩, h.bz.below hb, h.f0, h.f1, fun g => by obtain ⟨e, x, h1, h2, h3⟩ := h.f2 g; exact ⟨e, x, h1, h2, h3.below hb⟩, h.f3, h.f4, fun g => by obtain ⟨e, e2, lo, hi, x, h1, h2, h3, h4, h5, h6⟩ := h.f5 g; exact ⟨e, e2, lo, hi, x, h1, h2, h3, h4, Nat.le_trans h5 hb.size, h6.below hb⟩, h.f6, h.f7, h.f8, h.f9⟩
/-- A cell of the guest's own room is set: neither registers nor rows turn. -/
theorem own_set {k : IntKind} {w : World} {g b j : Nat} {v : Value} {zs : List Int} (h : Own k w g zs) (hn : b ≠ g) : Own k (w.setCell ⟨b, j, none⟩ v) g zs :=
  ⟨by simpa using h.lt, fun i hi => by rw [World.cell?_setCell_other _ _ _ _ (by intro e; injection e with e1 e2 e3; exact hn e1)]; exact h.cell i hi, fun i => by rw [World.frozen?_setCell]; exact h.free i⟩
set_option maxRecDepth 40000 in
set_option maxHeartbeats 8000000 in
theorem impl_copied (pc : Int) (ra ma : Option Addr) (rl rc n mc : Nat) (rs : List Int) (D : Nat → List Int) (w : World) (hs : GSeg w ra ma rs n D) (hl : rs.length = rl) (hr : rl ≤ 1048576) (hn : n ≤ 1048576) (ht : btot D n ≤ 1048576) :
    Calls Tryz.prog 26 #[gst ra rl rc pc ma n mc] w (CopyP w pc rl n rs D) := by
  have HB : Hid (Below w.heap.size w ((w.alloc (.cells #[.slice ra rl rc, .int .u32 pc, .slice ma n mc] 30)).alloc (.cells #[.slice none 0 0, .int .u32 0, .slice none 0 0] 30))) := ((Below.refl _ w).alloc (Nat.le_refl _) _).alloc (by simp) _
  have B0 : Hid (Bk ((w.alloc (.cells #[.slice ra rl rc, .int .u32 pc, .slice ma n mc] 30)).alloc (.cells #[.slice none 0 0, .int .u32 0, .slice none 0 0] 30)) w.heap.size #[.slice ra rl rc, .int .u32 pc, .slice ma n mc]) := (Bk.new w _ 30 w.heap.size rfl).alloc _
  have B1 : Hid (Bk ((w.alloc (.cells #[.slice ra rl rc, .int .u32 pc, .slice ma n mc] 30)).alloc (.cells #[.slice none 0 0, .int .u32 0, .slice none 0 0] 30)) (w.heap.size + 1) #[.slice none 0 0, .int .u32 0, .slice none 0 0]) := Bk.new _ _ 30 (w.heap.size + 1) (by simp)
  have HZ : Hid (w.heap.size + 2 ≤ ((w.alloc (.cells #[.slice ra rl rc, .int .u32 pc, .slice ma n mc] 30)).alloc (.cells #[.slice none 0 0, .int .u32 0, .slice none 0 0] 30)).heap.size) := by show _ ≤ _; simp
  have HCU : Hid (∀ X, Below w.heap.size w X → Calls Tryz.prog 50 #[.slice ra rl rc] X fun e w' => e = .returned (.slice (some ⟨X.heap.size, 0, none⟩) rl rl) ∧ Below X.heap.size X w' ∧ Own .u32 w' X.heap.size rs) := fun X hX => cp_u32s ra rl rc rs X (hs.1.below hX) hl hr
  have HCL : Hid (∀ X, Below w.heap.size w X → Calls Tryz.prog 51 #[.slice ma n mc] X fun e w' => e = .returned (.slice (some ⟨X.heap.size, 0, none⟩) n n) ∧ Below X.heap.size X w' ∧ BRows w' X.heap.size w'.heap.size (some ⟨X.heap.size, 0, none⟩) n D) := fun X hX => cpl_bytes ma mc n D X (hs.2.below hX) hn ht
  clear hs hl hr hn ht
  go_enter Tryz.func26, Tryz.ntmps26
  go_wp2
  refine wp_region_inv (by kernel_rfl) (by kernel_rfl) (fun AC ℓ a' w' => ∃ (x3 x4 x5 x6 x7 x8 x9 x10 : Value), a' = ((((((((AC.put (some 3) x3).put (some 4) x4).put (some 5) x5).put (some 6) x6).put (some 7) x7).put (some 8) x8).put (some 9) x9).put (some 10) x10) ∧ G3 w w' pc ra ma rl rc n mc rs D (ℓ 0) (ℓ 1) (ℓ 2) (ℓ 3) (ℓ 4) (ℓ 5) (ℓ 6) (ℓ 7) (ℓ 8) (ℓ 9) x3 x4 x5 x6 x7 x8 x9 x10) ?_ ?_ ?_ ?_
  · exact ⟨undef, undef, undef, undef, undef, undef, undef, undef, (by simp only [Act.put, List.setIfInBounds_toArray, List.set_cons_zero, List.set_cons_succ]), ⟨HB.out.drew, by simp, ⟨_, _, B0.out.below (Below.refl _ _).drew, (fun _ => rfl), (fun g => by cases g), (fun _ => rfl), (fun g => by cases g)⟩, B1.out.below (Below.refl _ _).drew, (fun g => by cases g), (fun g => by cases g), (fun g => by cases g), (fun g => by cases g), (fun g => by cases g), (fun g => by cases g), (fun g => by cases g), (fun g => by cases g), (fun g => by cases g), (fun g => by cases g)⟩⟩
  rotate_left
  · intro ℓ a' w' i o hI ho hi hL hdep K hK
    obtain ⟨x3, x4, x5, x6, x7, x8, x9, x10, rfl, hr⟩ := hI
    have hi7 : i < 10 := hi
    have hcs : i = 0 ∨ i = 1 ∨ i = 2 ∨ i = 3 ∨ i = 4 ∨ i = 5 ∨ i = 6 ∨ i = 7 ∨ i = 8 ∨ i = 9 := by omega
    clear hi hi7
    rcases hcs with rfl | rfl | rfl | rfl | rfl | rfl | rfl | rfl | rfl | rfl
    · obtain rfl := Option.some.inj ho
      clear hdep ho
      rw [if_pos (by rfl)]
      try simp only [Act.put, List.setIfInBounds_toArray, List.set_cons_zero, List.set_cons_succ]
      go_simp
      exact hK.out _ _ (fun j => if j = 0 then true else ℓ j) ⟨.pointer (some ⟨w.heap.size, 0, none⟩), x4, x5, x6, x7, x8, x9, x10, (by simp only [Act.put, List.setIfInBounds_toArray, List.set_cons_zero, List.set_cons_succ]), ⟨hr.bel, hr.hsz, hr.bk, hr.bz, (fun _ => rfl), hr.f1, hr.f2, hr.f3, hr.f4, hr.f5, hr.f6, hr.f7, hr.f8, hr.f9⟩⟩ (if_pos rfl) (fun j hj => if_neg hj)
    · obtain rfl := Option.some.inj ho
      have g0 : ℓ 0 = true := hdep { on := 0, ground := Ground.data } (by simp) rfl
      clear hdep ho
      obtain rfl := hr.f0 g0
      have hl7 : ℓ 7 = false := by
        cases h7 : ℓ 7
        · rfl
        · have := (hr.f2 (hr.f7 h7)).1; rw [this] at hL; cases hL
      revert hK
      obtain ⟨c0, c2, hk, h1, h2, h3, h4⟩ := hr.bk
      obtain rfl := h1 hl7
      intro hK
      have q0 := hk.cell 0 _ rfl
      rw [if_pos (by rfl)]
      try simp only [Act.put, List.setIfInBounds_toArray, List.set_cons_zero, List.set_cons_succ]
      go_simp
      exact hK.out _ _ (fun j => if j = 1 then true else ℓ j) ⟨.pointer (some ⟨w.heap.size, 0, none⟩), .slice ra rl rc, x5, x6, x7, x8, x9, x10, (by simp only [Act.put, List.setIfInBounds_toArray, List.set_cons_zero, List.set_cons_succ]), ⟨hr.bel, hr.hsz, hr.bk, hr.bz, hr.f0, (fun _ => rfl), (fun h => ⟨rfl, (hr.f2 h).2⟩), hr.f3, hr.f4, hr.f5, hr.f6, hr.f7, hr.f8, hr.f9⟩⟩ (if_pos rfl) (fun j hj => if_neg hj)
    · obtain rfl := Option.some.inj ho
      have g1 : ℓ 1 = true := hdep { on := 1, ground := Ground.data } (by simp) rfl
      clear hdep ho
      obtain rfl := hr.f1 g1
      have hl7 : ℓ 7 = false := by
        cases h7 : ℓ 7
        · rfl
        · have := hr.f7 h7; rw [this] at hL; cases hL
      have hl5 : ℓ 5 = false := by
        cases h7 : ℓ 5
        · rfl
        · have := (hr.f5 h7).2.1; rw [this] at hL; cases hL
      have hl9 : ℓ 9 = false := by
        cases h7 : ℓ 9
        · rfl
        · have := (hr.f5 (hr.f9 h7)).2.1; rw [this] at hL; cases hL
      rw [if_pos (by rfl)]
      try simp only [Act.put, List.setIfInBounds_toArray, List.set_cons_zero, List.set_cons_succ]
      go_simp
      refine Calls.mono (HCU.out _ hr.bel) ?_
      rintro e w9 ⟨rfl, hb9, ho9⟩
      have hr9 := hr.below hb9
      exact hK.out _ _ (fun j => if j = 2 then true else ℓ j) ⟨x3, .slice ra rl rc, .slice (some ⟨w'.heap.size, 0, none⟩) rl rl, x6, x7, x8, x9, x10, (by simp only [Act.put, List.setIfInBounds_toArray, List.set_cons_zero, List.set_cons_succ]), ⟨hr9.bel, hr9.hsz, (by obtain ⟨c0, c2, hk, h1, h2, h3, h4⟩ := hr9.bk; exact ⟨c0, c2, hk, h1, (fun h => by rw [hl7] at h; cases h), h3, h4⟩), hr9.bz, hr9.f0, hr9.f1, (fun _ => ⟨g1, _, rfl, hr.hsz, ho9⟩), hr9.f3, hr9.f4, (fun h => by rw [hl5] at h; cases h), hr9.f6, (fun h => by rw [hl7] at h; cases h), hr9.f8, (fun h => by rw [hl9] at h; cases h)⟩⟩ (if_pos rfl) (fun j hj => if_neg hj)
    · obtain rfl := Option.some.inj ho
      clear hdep ho
      rw [if_pos (by rfl)]
      try simp only [Act.put, List.setIfInBounds_toArray, List.set_cons_zero, List.set_cons_succ]
      go_simp
      exact hK.out _ _ (fun j => if j = 3 then true else ℓ j) ⟨x3, x4, x5, .pointer (some ⟨w.heap.size, 2, none⟩), x7, x8, x9, x10, (by simp only [Act.put, List.setIfInBounds_toArray, List.set_cons_zero, List.set_cons_succ]), ⟨hr.bel, hr.hsz, hr.bk, hr.bz, hr.f0, hr.f1, hr.f2, (fun _ => rfl), hr.f4, hr.f5, hr.f6, hr.f7, hr.f8, hr.f9⟩⟩ (if_pos rfl) (fun j hj => if_neg hj)
    · obtain rfl := Option.some.inj ho
      have g3 : ℓ 3 = true := hdep { on := 3, ground := Ground.data } (by simp) rfl
      clear hdep ho
      obtain rfl := hr.f3 g3
      have hl9 : ℓ 9 = false := by
        cases h7 : ℓ 9
        · rfl
        · have := (hr.f5 (hr.f9 h7)).1; rw [this] at hL; cases hL
      revert hK
      obtain ⟨c0, c2, hk, h1, h2, h3, h4⟩ := hr.bk
      obtain rfl := h3 hl9
      intro hK
      have q2 := hk.cell 2 _ rfl
      rw [if_pos (by rfl)]
      try simp only [Act.put, List.setIfInBounds_toArray, List.set_cons_zero, List.set_cons_succ]
      go_simp
      exact hK.out _ _ (fun j => if j = 4 then true else ℓ j) ⟨x3, x4, x5, .pointer (some ⟨w.heap.size, 2, none⟩), .slice ma n mc, x8, x9, x10, (by simp only [Act.put, List.setIfInBounds_toArray, List.set_cons_zero, List.set_cons_succ]), ⟨hr.bel, hr.hsz, hr.bk, hr.bz, hr.f0, hr.f1, hr.f2, hr.f3, (fun _ => rfl), (fun h => ⟨rfl, (hr.f5 h).2⟩), hr.f6, hr.f7, hr.f8, hr.f9⟩⟩ (if_pos rfl) (fun j hj => if_neg hj)
    · obtain rfl := Option.some.inj ho
      have g4 : ℓ 4 = true := hdep { on := 4, ground := Ground.data } (by simp) rfl
      have g2 : ℓ 2 = true := hdep { on := 2, ground := Ground.chain } (by simp) rfl
      clear hdep ho
      obtain rfl := hr.f4 g4
      have hl9 : ℓ 9 = false := by
        cases h7 : ℓ 9
        · rfl
        · have := hr.f9 h7; rw [this] at hL; cases hL
      rw [if_pos (by rfl)]
      try simp only [Act.put, List.setIfInBounds_toArray, List.set_cons_zero, List.set_cons_succ]
      go_simp
      refine Calls.mono (HCL.out _ hr.bel) ?_
      rintro e w9 ⟨rfl, hb9, ho9⟩
      have hr9 := hr.below hb9
      have hlg : ∀ g, x5 = .slice (some ⟨g, 0, none⟩) rl rl → g < w'.heap.size := fun g e => by
        obtain ⟨_, g', e', _, ho⟩ := hr.f2 g2
        rw [e] at e'
        injection e' with e'
        injection e' with e'
        injection e' with e'
        rw [e']
        exact ho.lt
      exact hK.out _ _ (fun j => if j = 5 then true else ℓ j) ⟨x3, x4, x5, x6, .slice ma n mc, .slice (some ⟨w'.heap.size, 0, none⟩) n n, x9, x10, (by simp only [Act.put, List.setIfInBounds_toArray, List.set_cons_zero, List.set_cons_succ]), ⟨hr9.bel, hr9.hsz, (by obtain ⟨c0, c2, hk, h1, h2, h3, h4⟩ := hr9.bk; exact ⟨c0, c2, hk, h1, h2, h3, (fun h => by rw [hl9] at h; cases h)⟩), hr9.bz, hr9.f0, hr9.f1, hr9.f2, hr9.f3, hr9.f4, (fun _ => ⟨g4, g2, _, _, _, rfl, hlg, hr.hsz, hb9.size, Nat.le_refl _, ho9⟩), hr9.f6, hr9.f7, hr9.f8, (fun h => by rw [hl9] at h; cases h)⟩⟩ (if_pos rfl) (fun j hj => if_neg hj)
    · obtain rfl := Option.some.inj ho
      clear hdep ho
      rw [if_pos (by rfl)]
      try simp only [Act.put, List.setIfInBounds_toArray, List.set_cons_zero, List.set_cons_succ]
      go_simp
      exact hK.out _ _ (fun j => if j = 6 then true else ℓ j) ⟨x3, x4, x5, x6, x7, x8, .pointer (some ⟨w.heap.size, 0, none⟩), x10, (by simp only [Act.put, List.setIfInBounds_toArray, List.set_cons_zero, List.set_cons_succ]), ⟨hr.bel, hr.hsz, hr.bk, hr.bz, hr.f0, hr.f1, hr.f2, hr.f3, hr.f4, hr.f5, (fun _ => rfl), hr.f7, hr.f8, hr.f9⟩⟩ (if_pos rfl) (fun j hj => if_neg hj)
    · obtain rfl := Option.some.inj ho
      have g2 : ℓ 2 = true := hdep { on := 2, ground := Ground.data } (by simp) rfl
      have g6 : ℓ 6 = true := hdep { on := 6, ground := Ground.data } (by simp) rfl
      clear hdep ho
      obtain rfl := hr.f6 g6
      revert hK
      obtain ⟨c0, c2, hk, h1, h2, h3, h4⟩ := hr.bk
      have hx5 : ∃ a1 l1 k1, x5 = .slice a1 l1 k1 := by
        obtain ⟨_, g, e, _⟩ := hr.f2 g2; exact ⟨_, _, _, e⟩
      obtain ⟨a1, l1, k1, hx5⟩ := hx5
      subst hx5
      intro hK
      have q0 := hk.cell 0 _ rfl
      have z0 := hk.free 0
      rw [if_pos (by rfl)]
      try simp only [Act.put, List.setIfInBounds_toArray, List.set_cons_zero, List.set_cons_succ]
      go_simp
      have hbt : Betw w.heap.size (w.heap.size + 1) w' (w'.setCell ⟨w.heap.size, 0, none⟩ (.slice a1 l1 k1)) := (Betw.refl _ _ _).setCell (p := ⟨w.heap.size, 0, none⟩) (Nat.le_refl _) (Nat.lt_succ_self _) _
      have hbel : Below w.heap.size w (w'.setCell ⟨w.heap.size, 0, none⟩ (.slice a1 l1 k1)) := hr.bel.setCell (p := ⟨w.heap.size, 0, none⟩) (Nat.le_refl _) _
      exact hK.out _ _ (fun j => if j = 7 then true else ℓ j) ⟨x3, x4, .slice a1 l1 k1, x6, x7, x8, .pointer (some ⟨w.heap.size, 0, none⟩), x10, (by simp only [Act.put, List.setIfInBounds_toArray, List.set_cons_zero, List.set_cons_succ]), ⟨hbel, (by simpa using hr.hsz), ⟨_, c2, hk.set 0 _ (by simp) rfl, (fun h => by cases h), (fun _ => rfl), h3, h4⟩, (hr.bz.other _ _ _ (by omega)), hr.f0, hr.f1, (fun h => by obtain ⟨e0, g, e, h1, h2⟩ := hr.f2 h; exact ⟨e0, g, e, h1, own_set h2 (by omega)⟩), hr.f3, hr.f4, (fun h => by obtain ⟨e0, e1, lo, hi, x, e, h1, h2, h3, h4, h5⟩ := hr.f5 h; exact ⟨e0, e1, lo, hi, x, e, h1, h2, h3, by simpa using h4, h5.betw hbt (.inr (by omega))⟩), hr.f6, (fun _ => g2), hr.f8, hr.f9⟩⟩ (if_pos rfl) (fun j hj => if_neg hj)
    · obtain rfl := Option.some.inj ho
      clear hdep ho
      rw [if_pos (by rfl)]
      try simp only [Act.put, List.setIfInBounds_toArray, List.set_cons_zero, List.set_cons_succ]
      go_simp
      exact hK.out _ _ (fun j => if j = 8 then true else ℓ j) ⟨x3, x4, x5, x6, x7, x8, x9, .pointer (some ⟨w.heap.size, 2, none⟩), (by simp only [Act.put, List.setIfInBounds_toArray, List.set_cons_zero, List.set_cons_succ]), ⟨hr.bel, hr.hsz, hr.bk, hr.bz, hr.f0, hr.f1, hr.f2, hr.f3, hr.f4, hr.f5, hr.f6, hr.f7, (fun _ => rfl), hr.f9⟩⟩ (if_pos rfl) (fun j hj => if_neg hj)
    · obtain rfl := Option.some.inj ho
      have g5 : ℓ 5 = true := hdep { on := 5, ground := Ground.data } (by simp) rfl
      have g8 : ℓ 8 = true := hdep { on := 8, ground := Ground.data } (by simp) rfl
      clear hdep ho
      obtain rfl := hr.f8 g8
      revert hK
      obtain ⟨c0, c2, hk, h1, h2, h3, h4⟩ := hr.bk
      have hx5 : ∃ a1 l1 k1, x8 = .slice a1 l1 k1 := by
        obtain ⟨_, _, lo, hi, h, e, _⟩ := hr.f5 g5; exact ⟨_, _, _, e⟩
      obtain ⟨a1, l1, k1, hx5⟩ := hx5
      subst hx5
      intro hK
      have q0 := hk.cell 2 _ rfl
      have z0 := hk.free 2
      rw [if_pos (by rfl)]
      try simp only [Act.put, List.setIfInBounds_toArray, List.set_cons_zero, List.set_cons_succ]
      go_simp
      have hbt : Betw w.heap.size (w.heap.size + 1) w' (w'.setCell ⟨w.heap.size, 2, none⟩ (.slice a1 l1 k1)) := (Betw.refl _ _ _).setCell (p := ⟨w.heap.size, 2, none⟩) (Nat.le_refl _) (Nat.lt_succ_self _) _
      have hbel : Below w.heap.size w (w'.setCell ⟨w.heap.size, 2, none⟩ (.slice a1 l1 k1)) := hr.bel.setCell (p := ⟨w.heap.size, 2, none⟩) (Nat.le_refl _) _
      exact hK.out _ _ (fun j => if j = 9 then true else ℓ j) ⟨x3, x4, x5, x6, x7, .slice a1 l1 k1, x9, .pointer (some ⟨w.heap.size, 2, none⟩), (by simp only [Act.put, List.setIfInBounds_toArray, List.set_cons_zero, List.set_cons_succ]), ⟨hbel, (by simpa using hr.hsz), ⟨c0, _, hk.set 2 _ (by simp) rfl, h1, h2, (fun h => by cases h), (fun _ => rfl)⟩, (hr.bz.other _ _ _ (by omega)), hr.f0, hr.f1, (fun h => by obtain ⟨e0, g, e, h1, h2⟩ := hr.f2 h; exact ⟨e0, g, e, h1, own_set h2 (by omega)⟩), hr.f3, hr.f4, (fun h => by obtain ⟨e0, e1, lo, hi, x, e, h1, h2, h3, h4, h5⟩ := hr.f5 h; exact ⟨e0, e1, lo, hi, x, e, h1, h2, h3, by simpa using h4, h5.betw hbt (.inr (by omega))⟩), hr.f6, hr.f7, hr.f8, (fun _ => g5)⟩⟩ (if_pos rfl) (fun j hj => if_neg hj)
  · rintro a' w' ℓ ℓ' hℓ hI
    rw [← show ℓ = ℓ' from funext hℓ]
    exact hI
  intro ℓ a' wr hI hall
  obtain ⟨x3, x4, x5, x6, x7, x8, x9, x10, rfl, hr⟩ := hI
  have hall' : ∀ i, i < 10 → ℓ i = true := hall
  obtain ⟨c0, c2, hk, _, h1, _, h2⟩ := hr.bk
  obtain rfl := h1 (hall' 7 (by omega))
  obtain rfl := h2 (hall' 9 (by omega))
  obtain ⟨_, g1, rfl, hg1, ho1⟩ := hr.f2 (hall' 2 (by omega))
  obtain ⟨_, _, lo, hi, B, rfl, hlg, hlo, hlh, hhi, hrows⟩ := hr.f5 (hall' 5 (by omega))
  have hg2 := hlg _ rfl
  have hbz := hr.bz
  have HBE : Hid (Below w.heap.size w wr) := hr.bel
  have HRW : Hid (BRows wr lo hi (some ⟨B, 0, none⟩) n D) := hrows
  have HRG : Hid (Own .u32 wr g1 rs) := ho1
  have hsz := hr.hsz
  clear hr hall hall' h1 h2 hlg hrows ho1
  have G0 := hbz.set 0 (.slice (some ⟨g1, 0, none⟩) rl rl) (by simp) rfl
  have G1 := G0.set 1 (.int .u32 pc) (by simp) rfl
  have G2 := G1.set 2 (.slice (some ⟨B, 0, none⟩) n n) (by simp) rfl
  have f1 := hbz.free
  have r0 := hk.cell 0 _ rfl
  have r1 := hk.cell 1 _ rfl
  have r2 := hk.cell 2 _ rfl
  have t0 := hbz.cell 0 _ rfl
  have t1 := G0.cell 1 _ rfl
  have t2 := G1.cell 2 _ rfl
  have n0 := G2.cell 0 _ rfl
  have n1 := G2.cell 1 _ rfl
  have n2 := G2.cell 2 _ rfl
  clear hbz hk G0 G1 G2
  simp only [Act.put, List.setIfInBounds_toArray, List.set_cons_zero, List.set_cons_succ]
  go_wp2
  refine bodyPost_ret (v := gst (some ⟨g1, 0, none⟩) rl rl pc (some ⟨B, 0, none⟩) n n) (by simp [results, Tryz.results26, go_sem, n0, n1, n2]) rfl ⟨_, _, _, _, lo, rfl, ?_, ?_, ?_, ?_⟩
  · exact ((HBE.out.setCell (p := ⟨w.heap.size + 1, 0, none⟩) (by simp) _).setCell (p := ⟨w.heap.size + 1, 1, none⟩) (by simp) _).setCell (p := ⟨w.heap.size + 1, 2, none⟩) (by simp) _
  · have hbt := (((Betw.refl (w.heap.size + 1) (w.heap.size + 1 + 1) wr).setCell (p := ⟨w.heap.size + 1, 0, none⟩) (by simp) (by simp) (.slice (some ⟨g1, 0, none⟩) rl rl)).setCell (p := ⟨w.heap.size + 1, 1, none⟩) (by simp) (by simp) (.int .u32 pc)).setCell (p := ⟨w.heap.size + 1, 2, none⟩) (by simp) (by simp) (.slice (some ⟨B, 0, none⟩) n n)
    exact ⟨⟨g1, (ON.own HRG.out (by omega) hg2 : ON .u32 wr w.heap.size lo (some ⟨g1, 0, none⟩) rs g1).betw hbt (fun _ => .inr (by omega))⟩, (HRW.out.betw hbt (.inr (by omega))).wide (Nat.le_refl _) (by simpa using hhi)⟩
  · omega
  · simp; omega
end Go.Proofs.YtjlhkjiccibgdaaGreatDoor
