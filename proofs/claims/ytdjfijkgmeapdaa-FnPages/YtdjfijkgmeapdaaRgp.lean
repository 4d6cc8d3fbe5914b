
/-
  The ring of pages: where the n-th lies, whether a page is there, the oldest goes. Conditions: the ring is one.
-/
import Derived.Test.YtdjfijkgmeapdaaProg
import Derived.Test.YtdjfijkgmeapdaaRng
import Derived.Deep.RegionHeldLaw
import Derived.Deep.RegionLaw
import Derived.Deep.RegionHeld3
namespace Go.Proofs.Ytdjfijkgmeapdaa
open Go.ChangeShapes Go.WideShapes Go.ChangeAt Go.RowKit Go.Deep Go.Maps
set_option linter.unusedVariables false

abbrev rp (B : Nat) : Value := .pointer (some ⟨B, 0, none⟩)
theorem place_any (B o k : Nat) (w : World) (hc : w.cell? ⟨B, 9, none⟩ = some (.int .i64 (o : Int))) (ho : o < 8) (hk : k ≤ 8) :
    Calls Try.prog 33 #[rp B, .int .i64 (k : Int)] w fun e w' => e = .returned (.int .i64 (((o + k) % 8 : Nat) : Int)) ∧ w' = w := by
  go_enter Try.func33, Try.ntmps33
  go_wp2
  go_ret
  exact ⟨ret_int (by omega), rfl⟩
theorem holds_any (B M : Nat) (x : Int) (L : List Int) (w : World) (hc : w.cell? ⟨B, 10, none⟩ = some (.map (some M))) (hs : SetM w M L) (hx : (Lit.int .i64 x).wf = true) :
    Calls Try.prog 28 #[rp B, .int .i64 x] w fun e w' => e = .returned (.bool (L.contains x)) ∧ Below w.heap.size w w' := by
  obtain ⟨D, hown, h2, h3⟩ := hs
  have HX : Hid (Maps.has D (.int .i64 x) = L.contains x) := h2 x
  have hkey : keyOf Try.prog 3 (.int .i64 x) = some (.int .i64 x) := keyOf_int_mk Try.underlying3 hx
  have HO : Hid _ := hown
  rw [← HX.out]
  clear h2 h3 hown
  go_enter Try.func28, Try.ntmps28
  go_wp2_with (first | (at_lookup; refine wpList_lookup_own_unit _ rfl _ _ 53 rfl 3 58 keyed3 Try.underlying53 (zeroEU _) M L.length D rfl HO.out _ _ rfl hkey ?_))
  go_ret
  exact ⟨rfl, (Below.refl _ _).alloc (Nat.le_refl _) _⟩
theorem step_delete {ops : Array Oper} {o : Oper} {ac : Act} {K : Act → World → Prop} {Q : Exit → Act → World → Prop} {E : Prop} (w : World) (hgd : o.guard = none) (m x : Operand) (t k : TypeId)
    (ho : o.op = .call { callee := .builtin .delete, args := #[m, x], argTypes := #[t, k] }) (e : TypeId) (KK : Keyed Try.prog k) (ht : Try.prog.underlying t = some (.map k e)) (R : Value → Option (DataW Unit × List MemPlace)) (b n : Nat) (D : DataW Unit)
    (hm : ac.eval m = .map (some b)) (hown : w.ownsMap Try.prog k R b n D) (key : Value) (kl : Lit) (hx : ac.eval x = key) (hkey : keyOf Try.prog k key = some kl)
    (h : ∀ w', w'.ownsMap Try.prog k R b n (D.del kl) → w.mapTurned w' b → K (ac.put o.dst (.tuple #[])) w') :
    if Region.wanted o (yielded ops ac.tmps) = true then Oper.wp Try.prog o ac w K Q else E := by
  have hw : Region.wanted o (yielded ops ac.tmps) = true := by simp [Region.wanted, hgd]
  rw [if_pos hw]
  obtain ⟨w', hrun, r1, r2⟩ := hown.drop KK ht hkey o.type
  unfold Oper.wp execOp
  simp only [ho, resolve, invoke, builtin, Sem.run_bind, Sem.run_pure, Result.andThen_ok, List.map_toArray, List.map_cons, List.map_nil, hm, hx, hrun]
  exact h w' r1 r2
theorem Two.drew {B M : Nat} {w w' : World} (h : Two B M w.drew w') : Two B M w w' := (Below.two (Below.refl _ _).drew).trans h
theorem turned_cell {w w' : World} {M B i : Nat} {v : Value} (h : w.drew.mapTurned w' M) (hne : B ≠ M) (hc : w.cell? ⟨B, i, none⟩ = some v) : w'.cell? ⟨B, i, none⟩ = some v := by
  have hlt : B < w.heap.size := World.block_lt_of_cell? w _ hc
  exact (World.cell?_of_block (w := w) (a := ⟨B, i, none⟩) (turned_block (w := w.drew) h hlt hne)).trans hc
theorem Rg.dropped {w w1 : World} {B M n : Nat} {s x : Int} {o : Nat} {ps : Nat → Int} {L : List Int} {D : DataW Unit} (h : Rg w B M s o ps (x :: L)) (hD : (∀ y, Maps.has D (.int .i64 y) = (x :: L).contains y) ∧ Maps.size D = (x :: L).length) (ht : Tidy D)
    (hown : w1.ownsMap Try.prog 3 unitElem M n (D.del (.int .i64 x))) (htu : w.drew.mapTurned w1 M) :
    Rg (w1.setCell ⟨B, 9, none⟩ (.int .i64 (((o + 1) % 8 : Nat) : Int))) B M s ((o + 1) % 8) ps L ∧ Two B M w (w1.setCell ⟨B, 9, none⟩ (.int .i64 (((o + 1) % 8 : Nat) : Int))) := by
  have hne := h.ne
  have hf : ∀ i, w1.frozen? ⟨B, i, none⟩ = false := fun i => (World.frozen?_of_block (w := w) (a := ⟨B, i, none⟩) (turned_block (w := w.drew) htu h.lt hne)).trans (h.free i)
  have hnd := List.nodup_cons.1 h.nd
  have hset := (SetM.del hD.1 hD.2 ht hnd.1 hown).same (w' := w1.setCell ⟨B, 9, none⟩ (.int .i64 (((o + 1) % 8 : Nat) : Int))) (Below.heap_setCell w1 ⟨B, 9, none⟩ _ M (fun e => hne e.symm))
  have ho : ∀ i v, i ≠ 9 → w.cell? ⟨B, i, none⟩ = some v → (w1.setCell ⟨B, 9, none⟩ (.int .i64 (((o + 1) % 8 : Nat) : Int))).cell? ⟨B, i, none⟩ = some v := fun i v hi hc => by
    rw [World.cell?_setCell_other _ _ _ _ (by intro c; injection c with c1 c2 c3; exact hi c2.symm)]
    exact turned_cell htu hne hc
  refine ⟨⟨by have := h.lt; have := htu.grown.size; simp at this ⊢; omega, ho 0 _ (by omega) h.c0, fun i hi => ho _ _ (by omega) (h.cp i hi), World.cell?_setCell_same _ _ _ (turned_cell htu hne h.c9), ho 10 _ (by omega) h.c10, fun i => by simpa using hf i, hset, hne, by omega, by have := h.ls; simp at this; omega, h.s8, drop_at h.at', hnd.2, fun y hy => h.pg y (by simp [hy])⟩, ?_⟩
  exact (Two.drew (Two.turned htu)).trans (Two.set _ _ _)
set_option maxHeartbeats 1000000 in
set_option maxRecDepth 100000 in
theorem drop_any (B M : Nat) (s x : Int) (o : Nat) (ps : Nat → Int) (L : List Int) (w : World) (h : Rg w B M s o ps (x :: L)) :
    Calls Try.prog 34 #[rp B] w fun e w' => e = .returned (.tuple #[]) ∧ Rg w' B M s ((o + 1) % 8) ps L ∧ Two B M w w' := by
  obtain ⟨D, hown, h2, h3⟩ := h.set
  have ho := h.ol
  have hpx : ps o = x := by have := h.at' 0 (by simp); rw [Nat.add_zero, Nat.mod_eq_of_lt ho] at this; simpa using this
  have c9 := h.c9
  have c10 := h.c10
  have cx := h.cp o ho
  rw [hpx] at cx
  have hkey : keyOf Try.prog 3 (.int .i64 x) = some (.int .i64 x) := keyOf_int_mk Try.underlying3 (wf_page (h.pg x (by simp)))
  have HO : Hid (w.ownsMap Try.prog 3 unitElem M (x :: L).length D) := hown
  have HR : Hid _ := h
  have HD : Hid _ := And.intro h2 h3
  have HTY : Hid _ := hown.tidy keyed3
  clear h h2 h3 hown hpx
  have hlen : Hid ((x :: L).length = L.length + 1) := rfl
  rw [hlen.out] at HO
  generalize L.length + 1 = N at HO
  obtain ⟨o', HO'⟩ : ∃ o', Hid ((o + 1) % 8 = o') := ⟨_, rfl⟩
  rw [HO'.out]
  go_enter Try.func34, Try.ntmps34
  go_wp2
  go_region_held_law (fun w' => w'.cell? ⟨B, 9, none⟩ = some (.int .i64 (o : Int)) ∧ w'.cell? ⟨B, 10, none⟩ = some (.map (some M)) ∧ w'.cell? ⟨B, 1 + o, none⟩ = some (.int .i64 x)) (first | exact ⟨c9, c10, cx⟩)
    (first | (refine step_delete _ rfl _ _ 53 3 rfl 58 keyed3 Try.underlying53 unitElem M N D rfl (ownsMap_same HO.out rfl) _ _ rfl hkey ?_; intro w1 hown1 hturn1; have HY : Hid _ := And.intro hown1 hturn1; replace c9 := turned_cell hturn1 HR.out.ne c9; replace c10 := turned_cell hturn1 HR.out.ne c10; replace cx := turned_cell hturn1 HR.out.ne cx; clear hown1 hturn1))
  have HZ : Hid _ := Rg.dropped HR.out HD.out HTY.out HY.out.1 HY.out.2
  rw [HO'.out] at HZ
  have hf : w1.frozen? ⟨B, 9, none⟩ = false := by have := HZ.out.1.free 9; simpa using this
  clear HY cx
  go_wp2_with fail
  refine Calls.mono (place_any B o 1 _ c9 ho (by omega)) ?_
  rintro u w2 ⟨rfl, rfl⟩
  rw [HO'.out]
  go_wp2
  refine bodyPost_end (v := .tuple #[]) (by simp [results, Try.results34, go_sem]) rfl ⟨rfl, HZ.out.1, HZ.out.2⟩
end Go.Proofs.Ytdjfijkgmeapdaa
