
/-
  A list of words that the call owns, wherever it begins in its block: append of one word, and its tail. Conditions: lengths are at most 1000.
-/
import Derived.Test.YthfmggfohegpnaaRows
import Derived.Test.YthfmggfohegpnaaDvt
import Derived.Deep.AppendSrc
namespace Go.Proofs.Ythfmggfohegpnaa
open Go.ChangeShapes Go.WideShapes Go.ChangeAt Go.RowKit Go.Deep
set_option linter.unusedVariables false

structure OffU (w : World) (base g off n c : Nat) (zs : List Int) : Prop where
  lo : base ≤ g
  lt : g < w.heap.size
  len : zs.length = n
  le : n ≤ c
  el : ∀ j, j < n → w.cell? ⟨g, off + j, none⟩ = some (.int .u32 (zs.getD j 0))
  sp : ∀ j, n ≤ j → j < c → (w.cell? ⟨g, off + j, none⟩).isSome = true ∧ w.frozen? ⟨g, off + j, none⟩ = false
variable {w w' : World} {base g off n c : Nat} {zs : List Int}
theorem OffU.other (h : OffU w base g off n c zs) (hsz : w.heap.size ≤ w'.heap.size) (hb : w'.heap[g]? = w.heap[g]?) : OffU w' base g off n c zs :=
  ⟨h.lo, Nat.lt_of_lt_of_le h.lt hsz, h.len, h.le, fun j hj => (World.cell?_of_block (a := ⟨g, off + j, none⟩) hb).trans (h.el j hj), fun j h1 h2 => by rw [World.cell?_of_block (a := ⟨g, off + j, none⟩) hb, World.frozen?_of_block (a := ⟨g, off + j, none⟩) hb]; exact h.sp j h1 h2⟩
theorem OffU.below (h : OffU w base g off n c zs) (hb : Below w.heap.size w w') : OffU w' base g off n c zs := h.other hb.size (hb.block g h.lt)
theorem OffU.new (w : World) (base : Nat) (hB : base ≤ w.heap.size) : OffU (w.alloc (.cells #[] 31)) base w.heap.size 0 0 0 [] :=
  ⟨hB, by simp, rfl, Nat.le_refl _, fun j hj => absurd hj (Nat.not_lt_zero _), fun j _ hj => absurd hj (Nat.not_lt_zero _)⟩
theorem OffU.seg (h : OffU w base g off n c zs) : Seg .u32 w (some ⟨g, off, none⟩) zs := fun _ => ⟨g, off, rfl, h.lt, fun i hi => h.el i (by rw [← h.len]; exact hi)⟩
theorem OffU.tail (h : OffU w base g off n c zs) (hn : 0 < n) : OffU w base g (off + 1) (n - 1) (c - 1) (zs.drop 1) :=
  ⟨h.lo, h.lt, by rw [List.length_drop, h.len], by have := h.le; omega, fun j hj => by
    have := h.el (j + 1) (by omega)
    rw [show off + 1 + j = off + (j + 1) by omega, this]
    simp [List.getD], fun j h1 h2 => by
    have := h.sp (j + 1) (by omega) (by omega)
    rw [show off + 1 + j = off + (j + 1) by omega]
    exact this⟩
/-- The tail of a full list of one word: nothing, at the same place. -/
theorem OffU.none (h : OffU w base g off 1 1 zs) : OffU w base g off 0 0 (zs.drop 1) :=
  ⟨h.lo, h.lt, by rw [List.length_drop, h.len], Nat.le_refl _, fun j hj => absurd hj (Nat.not_lt_zero _), fun j _ hj => absurd hj (Nat.not_lt_zero _)⟩
set_option maxRecDepth 20000 in
theorem off_slice (g off n c : Nat) (hn : 0 < n) (hc : n ≤ c) : ∃ off', (∀ w : World, (Instr.slice 22 (.slice (some ⟨g, off, none⟩) n c) (some (.int .i64 1)) none none).run Try.prog w = .ok (.slice (some ⟨g, off', none⟩) (n - 1) (c - 1)) w) ∧ ∀ (X : World) (base : Nat) (zs : List Int), OffU X base g off n c zs → OffU X base g off' (n - 1) (c - 1) (zs.drop 1) := by
  by_cases h1 : c = 1
  · refine ⟨off, fun w => ?_, fun X base zs h => ?_⟩
    · rw [run_slice_l w 22 (some ⟨g, off, none⟩) n c Try.underlying22 .i64 1 (by omega) (by omega)]
      have e : ∀ w, (sizeOf (Try.prog.elem 22)).run Try.prog w = .ok 1 w := fun w => by kernel_rfl
      simp [e, sliced, h1]
    · subst h1
      obtain rfl : n = 1 := by omega
      exact h.none
  · refine ⟨off + 1, fun w => ?_, fun X base zs h => h.tail hn⟩
    rw [run_slice_l w 22 (some ⟨g, off, none⟩) n c Try.underlying22 .i64 1 (by omega) (by omega)]
    have e : ∀ w, (sizeOf (Try.prog.elem 22)).run Try.prog w = .ok 1 w := fun w => by kernel_rfl
    simp [e, sliced, Addr.add, h1]
    try omega
theorem getD_snoc (zs : List Int) (x : Int) (j : Nat) (hj : j < zs.length) : (zs ++ [x]).getD j 0 = zs.getD j 0 := by
  simp [List.getD, List.getElem?_append_left hj]
theorem getD_last (zs : List Int) (x : Int) : (zs ++ [x]).getD zs.length 0 = x := by simp [List.getD]
/-- What an append leaves: the list longer by a word; every block but the list's own is as it was. -/
theorem run_append_off (ty : TypeId) (hb : OffU w base g off n c zs) (hn : n ≤ 1000) (x : Int) (b9 o9 : Nat) (hx : w.cell? ⟨b9, o9, none⟩ = some (.int .u32 x)) :
    ∃ g' off' c' w', (Builtin.append_ #[22, 22] ty #[.slice (some ⟨g, off, none⟩) n c, .slice (some ⟨b9, o9, none⟩) 1 1]).run Try.prog w = .ok (.slice (some ⟨g', off', none⟩) (n + 1) c') w' ∧ OffU w' base g' off' (n + 1) c' (zs ++ [x]) ∧ w.grownBy w' (some g) ∧ (g' = g ∨ g' = w.heap.size) := by
  obtain ⟨iW, hi1, hi2, hi3, hi4⟩ := infoU'
  have hlt := hb.lt
  have hlo := hb.lo
  have hlen := hb.len
  have hsrc : Src Try.prog iW.size 22 (.slice (some ⟨b9, o9, none⟩) 1 1) 1 [.int .u32 x] w := Src.ofSlice w Try.underlying22 ⟨b9, o9, none⟩ 1 1 [.int .u32 x] (by rw [hi3]; rfl) (fun j u e => by
    have hj : j = 0 := by
      rcases Nat.eq_zero_or_pos j with h | h
      · exact h
      · rw [List.getElem?_eq_none (by simp; omega)] at e; cases e
    subst hj
    simp at e
    subst e
    rw [add_plain]
    exact hx) (one_u x)
  by_cases hroom : n + 1 ≤ c
  · have hr := run_append_room_src (P := Try.prog) w 22 22 ty 31 iW Try.underlying22 hi1 g off n c (.slice (some ⟨b9, o9, none⟩) 1 1) 1 [.int .u32 x] hsrc hroom
      (fun j hj => by simp at hj; subst hj; rw [hi3]; simpa using (hb.sp n (Nat.le_refl _) (by omega)).1) (fun j hj => by simp at hj; subst hj; rw [hi3]; simpa using (hb.sp n (Nat.le_refl _) (by omega)).2)
    rw [hi3, Nat.mul_one] at hr
    have hset : w.setCells g (off + n) [.int .u32 x] = w.setCell ⟨g, off + n, none⟩ (.int .u32 x) := rfl
    rw [hset] at hr
    obtain ⟨u0, hu0⟩ := Option.isSome_iff_exists.1 (hb.sp n (Nat.le_refl _) (by omega)).1
    have hother : ∀ j, j ≠ n → (w.setCell ⟨g, off + n, none⟩ (.int .u32 x)).cell? ⟨g, off + j, none⟩ = w.cell? ⟨g, off + j, none⟩ := fun j hj => World.cell?_setCell_other _ _ _ _ (by intro e; injection e with e1 e2 e3; omega)
    refine ⟨g, off, c, _, hr, ⟨hlo, by simpa [World.setCell] using hlt, by simp [hlen], hroom, fun j hj => ?_, fun j h1 h2 => ?_⟩, ⟨rfl, rfl, rfl, by simp [World.setCell], fun k hk hne => Below.heap_setCell _ _ _ _ (by show k ≠ g; exact fun e => hne (by rw [e]))⟩, .inl rfl⟩
    · rcases Nat.lt_or_ge j n with h | h
      · rw [hother j (by omega), hb.el j h, getD_snoc zs x j (by omega)]
      · obtain rfl : j = n := by omega
        rw [World.cell?_setCell_same _ _ _ hu0, ← hlen, getD_last]
    · rw [hother j (by omega), World.frozen?_setCell]
      exact hb.sp j (by omega) h2
  · have hcn := hb.le
    have hold : (Builtin.firstCells iW.size n (.slice (some ⟨g, off, none⟩) n c)).run Try.prog w.drew = .ok (zs.map (Value.int .u32)).toArray w.drew := run_firstCells_some (P := Try.prog) w.drew iW.size n ⟨g, off, none⟩ n c (zs.map (Value.int .u32)) (by rw [hi3]; simp [hlen]) (news_us (w := w.drew) (fun i hi => hb.el i (by omega)))
    have hr := run_append_grow_src (P := Try.prog) w 22 22 ty 31 iW _ Try.underlying22 hi1 hi2 (some ⟨g, off, none⟩) n c (zs.map (Value.int .u32)) hold (.slice (some ⟨b9, o9, none⟩) 1 1) 1 [.int .u32 x] hsrc (by omega) (by omega) (growslice_fits (by omega) (by rw [hi4]; omega))
    have hge := grownCap_ge w (n + 1) c 31
    refine ⟨w.heap.size, 0, _, _, hr, ⟨by omega, by simp, by simp [hlen], hge, fun j hj => ?_, fun j h1 h2 => ?_⟩, ⟨rfl, rfl, rfl, by simp, fun k hk _ => Below.heap_alloc w.drew _ k hk⟩, .inr rfl⟩
    · rw [Nat.zero_add]
      have e1 := World.cell?_alloc_new w.drew ((zs.map (Value.int .u32) ++ [Value.int .u32 x]).toArray ++ Builtin.zeroCells (Value.int .u32 0).cells (grownCap w (n + 1) c 31 - (n + 1))) 31 j
      rw [show (w.drew.heap.size) = w.heap.size from rfl] at e1
      rw [e1, Array.getElem?_append_left (by simp; omega)]
      rcases Nat.lt_or_ge j n with h | h
      · rw [getD_snoc zs x j (by omega)]
        simp [List.getElem?_append_left, hlen, h, List.getD]
      · obtain rfl : j = n := by omega
        rw [← hlen, getD_last]
        simp
    · rw [Nat.zero_add]
      have e1 := World.cell?_alloc_new w.drew ((zs.map (Value.int .u32) ++ [Value.int .u32 x]).toArray ++ Builtin.zeroCells (Value.int .u32 0).cells (grownCap w (n + 1) c 31 - (n + 1))) 31 j
      have e2 := World.frozen?_alloc_new w.drew ((zs.map (Value.int .u32) ++ [Value.int .u32 x]).toArray ++ Builtin.zeroCells (Value.int .u32 0).cells (grownCap w (n + 1) c 31 - (n + 1))) 31 j
      rw [show (w.drew.heap.size) = w.heap.size from rfl] at e1 e2
      rw [e1, e2]
      refine ⟨?_, rfl⟩
      rw [Array.getElem?_eq_getElem (by rw [Array.size_append, size_zeroCells]; simp [Value.cells, hlen]; omega)]
      rfl
/-- At an operation that is run in its turn. -/
theorem wpList_append_off {ops : Array Oper} {rest : List Oper} {o : Oper} {ac : Act} {Q : Exit → Act → World → Prop} (w : World) (hg : o.guard = none) (s x : Operand)
    (ho : o.op = .call { callee := .builtin .append, args := #[s, x], argTypes := #[22, 22] })
    (base g off n c : Nat) (zs : List Int) (z : Int) (b9 o9 : Nat) (hsv : ac.eval s = .slice (some ⟨g, off, none⟩) n c) (hxv : ac.eval x = .slice (some ⟨b9, o9, none⟩) 1 1)
    (hb : OffU w base g off n c zs) (hn : n ≤ 1000) (hx : w.cell? ⟨b9, o9, none⟩ = some (.int .u32 z))
    (h : ∀ g' off' c' w', OffU w' base g' off' (n + 1) c' (zs ++ [z]) → w.grownBy w' (some g) → (g' = g ∨ g' = w.heap.size) → wpList Try.prog ops Q rest (ac.put o.dst (.slice (some ⟨g', off', none⟩) (n + 1) c')) w') :
    wpList Try.prog ops Q (o :: rest) ac w := by
  refine wpList_plain hg fun K' hK' => ?_
  obtain ⟨g', off', c', w', hr, h2, h3, h4⟩ := run_append_off o.type hb hn z b9 o9 hx
  unfold Oper.wp execOp
  simp only [ho, resolve, invoke, builtin, Sem.run_bind, Sem.run_pure, Result.andThen_ok, List.map_toArray, List.map_cons, List.map_nil, hsv, hxv, hr]
  exact hK' _ _ (h g' off' c' w' h2 h3 h4)
end Go.Proofs.Ythfmggfohegpnaa
