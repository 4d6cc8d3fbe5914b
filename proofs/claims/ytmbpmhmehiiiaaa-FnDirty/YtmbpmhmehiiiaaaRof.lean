
/-
  A slice of ways laid out as a linked row. Conditions: the slice has at most 1048576 ways.
-/
import Derived.Test.YtmbpmhmehiiiaaaRows
import Derived.Test.YtmbpmhmehiiiaaaBkw
import Derived.Test.YtmbpmhmehiiiaaaLps
namespace Go.Proofs.Ytmbpmhmehiiiaaa
open Go.ChangeShapes Go.WideShapes Go.ChangeAt Go.RowKit Go.Deep Go.Shelf
set_option linter.unusedVariables false
attribute [local go_sem] Oper.semAt_some

theorem Bk.own {A B : World} {b : Nat} {cs : Array Value} {row : Option Nat} (h : Bk A b cs) (h0 : 0 < cs.size) (hg : A.grownBy B row) (hr : ∀ r, row = some r → ∃ o : Obj, A.heap[r]? = some o ∧ o.isCells = false) : Bk B b cs := by
  have hne : some b ≠ row := fun e => by
    obtain ⟨o, ho, hc⟩ := hr b e.symm
    have := h.cell 0 _ (Array.getElem?_eq_getElem h0)
    cases o <;> simp_all [World.cell?, Obj.isCells]
  have hk := hg.block b h.lt hne
  exact ⟨Nat.lt_of_lt_of_le h.lt hg.size, fun i v e => (World.cell?_of_block (a := ⟨b, i, none⟩) hk).trans (h.cell i v e), fun i => (World.frozen?_of_block (a := ⟨b, i, none⟩) hk).trans (h.free i)⟩
theorem LL.own {A B : World} {ns : List Nat} {vs : List Wy} {row : Option Nat} (h : LL A ns vs) (hg : A.grownBy B row) (hr : ∀ r, row = some r → ∃ o : Obj, A.heap[r]? = some o ∧ o.isCells = false) : LL B ns vs :=
  ⟨h.len, h.nodup, fun i b e => (h.blk i b e).own (by simp) hg hr⟩
theorem Chg.keeps {ns : List Nat} {A B : World} (h : Chg ns A B) (hc : ∀ k ∈ ns, ∃ cs, 0 < cs.size ∧ Bk A k cs) (L : Nat) : KeepsFrom L A B :=
  ⟨h.size, fun k o _ hk ho => by
    have hlt : k < A.heap.size := by
      rcases Nat.lt_or_ge k A.heap.size with g | g
      · exact g
      · rw [Array.getElem?_eq_none g] at hk; cases hk
    have hn : k ∉ ns := fun c => by
      obtain ⟨cs, h0, hb⟩ := hc k c
      have := hb.cell 0 _ (Array.getElem?_eq_getElem h0)
      cases o <;> simp_all [World.cell?, Obj.isCells]
    rw [h.block k hlt hn]
    exact hk⟩
theorem back_rev (ws : List Wy) : ((uptoB (bkAt ws ws.length) ws.length).map (·.2)).reverse = ws := by
  apply List.ext_getElem
  · simp [uptoB]
  · intro i h1 h2
    have h3 : ws.length - 1 - (ws.length - 1 - i) = i := by omega
    simp [uptoB, h3, h2]
set_option maxRecDepth 100000 in
set_option maxHeartbeats 4000000 in
theorem row_of (a : Option Addr) (cap : Nat) (ws : List Wy) (w : World) (hs : WSeg w a ws) (hn : ws.length ≤ 1048576) :
    Calls Try.prog 29 #[.slice a ws.length cap] w fun e w' => ∃ hd bs, e = .returned (rowV hd) ∧ LL w' (hd :: bs) (wd :: ws) ∧ (∀ k ∈ hd :: bs, w.heap.size ≤ k) ∧ Below w.heap.size w w' := by
  have hlow : 0 < ws.length → ∀ b off, a = some ⟨b, off, none⟩ → b < w.heap.size := fun h0 b off e => by
    obtain ⟨b', off', e', hlt, _⟩ := hs h0
    rw [e'] at e
    cases e
    exact hlt
  refine (callsIn_wide (n := 6)).1 ?_
  refine callsIn_of_wp_marks Try.func29 rfl trivial ?_ rfl
  simp only [Try.ntmps29, List.size_toArray, List.length_cons, List.length_nil, Nat.reduceAdd, Nat.reduceSub, Array.replicate_succ, Array.replicate_zero, List.push_toArray, List.append_toArray, List.nil_append, List.cons_append]
  gi_wp2_with (refine ⟨trivial, ?_⟩; gi_at_call 39; refine (back_in Fence.wide _ trivial rfl _ _ _ _).mono ?_; rintro e w' ⟨rfl, rfl⟩)
  have hal1 : Below w.heap.size w (w.alloc (.cells #[.pointer none] 66)) := (Below.refl _ _).alloc (Nat.le_refl _) _
  have hal2 := hal1.alloc hal1.size (.cells #[.int .i64 0, .bool false, .pointer none] 83)
  have hal3 := hal2.alloc hal2.size (.cells #[.pointer (some ⟨w.heap.size + 1, 0, none⟩)] 66)
  have hal4 := hal3.alloc hal3.size (.cells #[.slice a ws.length cap] 68)
  have bR := (((Bk.new w #[.pointer none] 66 w.heap.size rfl).alloc (.cells #[.int .i64 0, .bool false, .pointer none] 83)).alloc (.cells #[.pointer (some ⟨w.heap.size + 1, 0, none⟩)] 66)).alloc (.cells #[.slice a ws.length cap] 68)
  have bH := ((Bk.new (w.alloc (.cells #[.pointer none] 66)) #[.int .i64 0, .bool false, .pointer none] 83 (w.heap.size + 1) (by simp)).alloc (.cells #[.pointer (some ⟨w.heap.size + 1, 0, none⟩)] 66)).alloc (.cells #[.slice a ws.length cap] 68)
  have bV := (Bk.new ((w.alloc (.cells #[.pointer none] 66)).alloc (.cells #[.int .i64 0, .bool false, .pointer none] 83)) #[.pointer (some ⟨w.heap.size + 1, 0, none⟩)] 66 (w.heap.size + 1 + 1) (by simp)).alloc (.cells #[.slice a ws.length cap] 68)
  have bS := Bk.new (((w.alloc (.cells #[.pointer none] 66)).alloc (.cells #[.int .i64 0, .bool false, .pointer none] 83)).alloc (.cells #[.pointer (some ⟨w.heap.size + 1, 0, none⟩)] 66)) #[.slice a ws.length cap] 68 (w.heap.size + 1 + 1 + 1) (by simp)
  have hL0 : LL ((((w.alloc (.cells #[.pointer none] 66)).alloc (.cells #[.int .i64 0, .bool false, .pointer none] 83)).alloc (.cells #[.pointer (some ⟨w.heap.size + 1, 0, none⟩)] 66)).alloc (.cells #[.slice a ws.length cap] 68)) [w.heap.size + 1] [wd] :=
    ⟨rfl, by simp, fun i b e => by
      match i, e with
      | 0, e =>
        simp only [List.getElem?_cons_zero, Option.some.injEq] at e
        subst e
        exact bH⟩
  have hseg := hs.below hal4
  obtain ⟨W0, hW0⟩ : ∃ W0, (((w.alloc (.cells #[.pointer none] 66)).alloc (.cells #[.int .i64 0, .bool false, .pointer none] 83)).alloc (.cells #[.pointer (some ⟨w.heap.size + 1, 0, none⟩)] 66)).alloc (.cells #[.slice a ws.length cap] 68) = W0 := ⟨_, rfl⟩
  rw [hW0] at bR bV bS hL0 hseg hal4 ⊢
  have hsz : W0.heap.size = w.heap.size + 4 := by rw [← hW0]; simp
  clear hW0 hal1 hal2 hal3 bH hs
  refine wpIn_rangeFunc_ownH (Kp := KB w.heap.size (w.heap.size + 1 + 1 + 1)) rfl (by omega) (gf := 48) (lb := #[.pointer (some ⟨w.heap.size + 1 + 1 + 1, 0, none⟩)]) rfl trivial (enters_of Try.func48 (by kernel_rfl) rfl)
    (back_stops Fence.wide (6 - 1) trivial rfl (by omega) (w.heap.size + 1 + 1 + 1) w.heap.size cap a ws hn W0 (by omega) (by omega) (bS.cell 0 _ rfl) hseg hlow) (fun h g => h.trans g)
    (fun W l o o' hl ho h1 h2 => ⟨belowK_b (w := W0) (by omega) W l o o' hl ho h1 h2, by
      have hne : w.heap.size + 1 + 1 + 1 ≠ l := by omega
      simp [World.putObj, Ne.symm hne]⟩) (Below.refl _ _) (fun _ => rfl)
    (fun pre W => (∃ bs, LL W ((w.heap.size + 1) :: bs) (wd :: (pre.map (·.2)).reverse) ∧ ∀ k ∈ bs, w.heap.size + 1 ≤ k) ∧ Bk W (w.heap.size + 1 + 1) #[.pointer (some ⟨w.heap.size + 1, 0, none⟩)] ∧ Bk W w.heap.size #[.pointer none] ∧ Below w.heap.size w W ∧ W0.heap.size ≤ W.heap.size)
    (fun _ _ _ => False)
    (fun s A B row hs hg hr => by
      obtain ⟨⟨bs, h1, h2⟩, h3, h4, h5, h9⟩ := hs
      have hr' := fun r e => (hr r e).2
      exact ⟨⟨bs, h1.own hg hr', h2⟩, h3.own (by simp) hg hr', h4.own (by simp) hg hr', Below.grown h5 hg h5.size (fun k e => by have := (hr k e).1; omega), Nat.le_trans h9 hg.size⟩)
    (fun _ _ _ _ _ hs _ _ => hs)
    ⟨⟨[], hL0, by simp⟩, bV, bR, hal4, Nat.le_refl _⟩
    (fun x a' W => ∃ Bx, w.heap.size + 1 + 1 + 1 < Bx ∧ Bk W Bx #[.int .i64 x.2.1, .bool x.2.2] ∧ a' = { tmps := #[.slice a ws.length cap, undef, .pointer (some ⟨w.heap.size, 0, none⟩), .pointer (some ⟨w.heap.size + 1 + 1, 0, none⟩), undef, .pointer (some ⟨Bx, 0, none⟩), .agg #[.int .i64 0, .bool false, .pointer none], .pointer (some ⟨w.heap.size + 1, 0, none⟩), .agg #[.pointer (some ⟨w.heap.size + 1, 0, none⟩)], .slice a ws.length cap, .func (.func 48) #[] #[.pointer (some ⟨w.heap.size + 1 + 1 + 1, 0, none⟩)], .int .i64 (x.1 : Int), .agg #[.int .i64 x.2.1, .bool x.2.2], undef, undef, undef, undef], defers := [] })
    (fun x a' _ A B row hs hg hr => by
      obtain ⟨Bx, h1, h2, h3⟩ := hs
      exact ⟨Bx, h1, h2.own (by simp) hg (fun r e => (hr r e).2), h3⟩)
    ?assign ?body ?done ?stop
  case assign =>
    rintro l pre x W K ⟨⟨bs, h1, h2⟩, h3, h4, h5, h9⟩ hK
    have hal : Below W.heap.size W (W.alloc (.cells #[.int .i64 x.2.1, .bool x.2.2] 61)) := (Below.refl _ _).alloc (Nat.le_refl _) _
    gi_wp2
    exact hK _ _ ((KeepsOthers.alloc _ _).from _) ⟨hal.mono h5.size, hal.block _ (by omega)⟩ ⟨⟨bs, h1.below hal, h2⟩, h3.below hal, h4.below hal, h5.trans (hal.mono h5.size), Nat.le_trans h9 hal.size⟩ ⟨W.heap.size, by omega, Bk.new W _ 61 _ rfl, rfl⟩
  case body =>
    rintro l pre x a' W hl hr ⟨⟨bs, h1, h2⟩, h3, h4, h5, h9⟩ ⟨Bx, hBx, bX, rfl⟩ hlt
    have c0 := h3.cell 0 _ rfl
    have x0 := bX.cell 0 _ rfl
    have x1 := bX.cell 1 _ rfl
    have HP : Hid _ := row_push (w.heap.size + 1) bs wd x.2 ((pre.map (·.2)).reverse) W h1
    gi_wp2_with (refine ⟨trivial, ?_⟩; gi_at_call 40; refine (CallsIn.inRound l (callsIn_wide.2 HP.out)).mono ?_; rintro e w' ⟨rfl, c, hc, h6, h7⟩)
    have hn1 : ∀ k, k ≠ w.heap.size + 1 → k ∉ [w.heap.size + 1] := fun k hk e => hk (by simpa using e)
    refine ⟨h7.keeps (fun k hk => ⟨_, by simp, h1.blk 0 k (by simp only [List.mem_singleton] at hk; simp [hk])⟩) _, ⟨h7.below h5.size (fun k hk => by simp only [List.mem_singleton] at hk; omega), h7.block _ (by omega) (hn1 _ (by omega))⟩, ⟨c :: bs, by simpa using h6, fun k hk => ?_⟩, h3.chg h7 (hn1 _ (by omega)), h4.chg h7 (hn1 _ (by omega)), h5.trans (h7.below h5.size (fun k hk => by simp only [List.mem_singleton] at hk; omega)), Nat.le_trans h9 h7.size⟩
    rcases List.mem_cons.1 hk with e | e
    · have := h3.lt; omega
    · exact h2 k e
  case done =>
    rintro D xs W hD rfl ⟨⟨bs, h1, h2⟩, h3, h4, h5, h9⟩ hK
    have c0 := h3.cell 0 _ rfl
    have m0 := h4.cell 0 _ rfl
    have f0 := h4.free
    rw [back_rev ws] at h1
    have h4' := h4.set 0 (.pointer (some ⟨w.heap.size + 1, 0, none⟩)) (by simp) rfl
    have hc1 : Chg [w.heap.size] W (W.setCell ⟨w.heap.size, 0, none⟩ (.pointer (some ⟨w.heap.size + 1, 0, none⟩))) := (Chg.refl _ _).set _ 0 _ (by simp)
    have hK' : (W.setCell ⟨w.heap.size, 0, none⟩ (.pointer (some ⟨w.heap.size + 1, 0, none⟩))).heap[D]? = some (.deferred (some [])) := (KeepsOthers.setCell _ _ _).same D _ hK rfl
    have hlt := h1.lt
    have h1' := h1.chg hc1 (fun k hk e => by
      simp only [List.mem_singleton] at e
      rcases List.mem_cons.1 hk with g | g
      · omega
      · have := h2 k g; omega)
    have hg := grownBy_putObj' (W.setCell ⟨w.heap.size, 0, none⟩ (.pointer (some ⟨w.heap.size + 1, 0, none⟩))) D (.deferred none)
    have hrow : ∀ r, some D = some r → ∃ o : Obj, (W.setCell ⟨w.heap.size, 0, none⟩ (.pointer (some ⟨w.heap.size + 1, 0, none⟩))).heap[r]? = some o ∧ o.isCells = false := fun r e => by cases e; exact ⟨_, hK', rfl⟩
    have n0 := (h4'.own (by simp) hg hrow).cell 0 _ rfl
    have hb5 : Below w.heap.size w (W.setCell ⟨w.heap.size, 0, none⟩ (.pointer (some ⟨w.heap.size + 1, 0, none⟩))) := h5.setCell (p := ⟨w.heap.size, 0, none⟩) (Nat.le_refl _) _
    have HZ : Hid _ := And.intro (h1'.own hg hrow) (Below.grown hb5 hg hb5.size (fun k e => by cases e; omega))
    gi_wp2
    refine ⟨by simp, .inl ⟨_, _, rfl, run_takeDeferred hK', ?_⟩⟩
    refine ⟨rowV (w.heap.size + 1), by simp [results, Try.results29, go_sem, n0], w.heap.size + 1, bs, rfl, HZ.out.1, fun k hk => ?_, HZ.out.2⟩
    rcases List.mem_cons.1 hk with g | g
    · omega
    · have := h2 k g; omega
  case stop =>
    rintro D c pre W _ _ h _
    exact h.elim
end Go.Proofs.Ytmbpmhmehiiiaaa
