
/-
  The ring of pages: a page comes in, and the oldest goes where there is no room. Conditions: the ring is one, the page is none of its own.
-/
import Derived.Test.YtdjfijkgmeapdaaProg
import Derived.Test.YtdjfijkgmeapdaaRgp
namespace Go.Proofs.Ytdjfijkgmeapdaa
open Go.ChangeShapes Go.WideShapes Go.ChangeAt Go.RowKit Go.Deep Go.Maps
set_option linter.unusedVariables false

theorem step_len {ops : Array Oper} {o : Oper} {ac : Act} {K : Act → World → Prop} {Q : Exit → Act → World → Prop} {E : Prop} (w : World) (hgd : o.guard = none) (m : Operand) (t : TypeId)
    (ho : o.op = .call { callee := .builtin .len, args := #[m], argTypes := #[t] }) (ht : Try.prog.underlying t = some (.map 3 58)) (M n : Nat) (L : List Int) (hl : L.length = n)
    (hm : ac.eval m = .map (some M)) (hs : SetM w M L) (d : Option Nat) (hd : o.dst = d) (h : K (ac.put d (.int .i64 (n : Int))) w) :
    if Region.wanted o (yielded ops ac.tmps) = true then Oper.wp Try.prog o ac w K Q else E := by
  have hw : Region.wanted o (yielded ops ac.tmps) = true := by simp [Region.wanted, hgd]
  rw [if_pos hw]
  obtain ⟨D, hown, _, h3⟩ := hs
  have hrun := hown.len ht o.type
  rw [h3, hl] at hrun
  subst hd
  unfold Oper.wp execOp
  simp only [ho, resolve, invoke, builtin, Sem.run_bind, Sem.run_pure, Result.andThen_ok, List.map_toArray, List.map_cons, List.map_nil, hm, hrun]
  exact h
theorem Rg.added {w W w1 : World} {B M n : Nat} {s x : Int} {o q : Nat} {ps : Nat → Int} {L : List Int} {D : DataW Unit} (h : Rg w B M s o ps L) (hq : (o + L.length) % 8 = q) (hls : (L.length : Int) < s) (hx : 0 ≤ x ∧ x ≤ 1023) (hn : x ∉ L)
    (hD : (∀ y, Maps.has D (.int .i64 y) = L.contains y) ∧ Maps.size D = L.length) (ht : Tidy D)
    (hown : w1.ownsMap Try.prog 3 unitElem M n (D.put (.int .i64 x) (.agg []))) (hbW : Below (w.setCell ⟨B, 1 + q, none⟩ (.int .i64 x)).heap.size (w.setCell ⟨B, 1 + q, none⟩ (.int .i64 x)) W) (htu : W.mapTurned w1 M) :
    Rg w1 B M s o (fun j => if j = q then x else ps j) (L ++ [x]) ∧ Two B M w w1 := by
  subst hq
  have hne := h.ne
  have hq8 : (o + L.length) % 8 < 8 := by omega
  have hB := (turned_block htu (B := B) (Nat.lt_of_lt_of_le (by simpa using h.lt) hbW.size) hne).trans (hbW.block B (by simpa using h.lt))
  have hcell : ∀ i, w1.cell? ⟨B, i, none⟩ = (w.setCell ⟨B, 1 + (o + L.length) % 8, none⟩ (.int .i64 x)).cell? ⟨B, i, none⟩ := fun i => World.cell?_of_block (a := ⟨B, i, none⟩) hB
  have hoth : ∀ i v, i ≠ 1 + (o + L.length) % 8 → w.cell? ⟨B, i, none⟩ = some v → w1.cell? ⟨B, i, none⟩ = some v := fun i v hi hc => by
    rw [hcell, World.cell?_setCell_other _ _ _ _ (by intro c; injection c with c1 c2 c3; exact hi c2.symm)]
    exact hc
  have h8 := h.s8
  refine ⟨⟨by have := h.lt; have h2 := htu.grown.size; have h3 := hbW.size; simp at h3; omega, hoth 0 _ (by omega) h.c0, fun i hi => ?_, hoth 9 _ (by omega) h.c9, hoth 10 _ (by omega) h.c10, fun i => ?_, SetM.put hD.1 hD.2 ht (wf_page hx) hn hown, hne, h.ol, by simp; omega, h.s8, add_at h.at' (by omega), ?_, fun y hy => ?_⟩, ((Two.set _ _ _).trans (Below.two hbW)).trans (Two.turned htu)⟩
  · by_cases e : i = (o + L.length) % 8
    · subst e
      rw [hcell, World.cell?_setCell_same _ _ _ (h.cp _ hi)]
      simp
    · rw [if_neg e]
      exact hoth _ _ (by omega) (h.cp i hi)
  · rw [World.frozen?_of_block (a := ⟨B, i, none⟩) hB]
    simpa using h.free i
  · refine List.nodup_append.2 ⟨h.nd, by simp, fun a ha b hb e => ?_⟩
    simp only [List.mem_singleton] at hb
    subst hb e
    exact hn ha
  · rcases List.mem_append.1 hy with g | g
    · exact h.pg y g
    · simp only [List.mem_singleton] at g
      subst g
      exact hx
def pushU (s : Int) (L : List Int) (x : Int) : List Int := (if (L.length : Int) = s then L.drop 1 else L) ++ [x]
set_option maxHeartbeats 1000000 in
set_option maxRecDepth 100000 in
theorem add_room (B M N : Nat) (s x : Int) (o : Nat) (ps : Nat → Int) (L : List Int) (w : World) (h : Rg w B M s o ps L) (hL : L.length = N) (hN : (N : Int) < s) (hx : 0 ≤ x ∧ x ≤ 1023) (hn : x ∉ L) :
    Calls Try.prog 30 #[rp B, .int .i64 x] w fun e w' => e = .returned (.tuple #[]) ∧ (∃ o' ps', Rg w' B M s o' ps' (L ++ [x])) ∧ Two B M w w' := by
  have HR : Hid _ := h
  have HL : Hid _ := hL
  have HX : Hid _ := And.intro hx hn
  have c0 := h.c0
  have c10 := h.c10
  have c9 := h.c9
  have ho := h.ol
  have hN8 : N < 8 := by have := h.s8; omega
  have hne : ((N : Int) == s) = false := by simp; omega
  have hkey : keyOf Try.prog 3 (.int .i64 x) = some (.int .i64 x) := keyOf_int_mk Try.underlying3 (wf_page hx)
  obtain ⟨D, hown, hD1, hD2⟩ := h.set
  have HD : Hid _ := And.intro hD1 hD2
  have HTY : Hid _ := hown.tidy keyed3
  rw [hL] at hown
  clear h hL hx hn hD1 hD2
  show Calls Try.prog 30 #[.pointer (some ⟨B, 0, none⟩), .int .i64 x] w _
  obtain ⟨q, HQ⟩ : ∃ q, Hid ((o + N) % 8 = q) := ⟨_, rfl⟩
  have hq8 : q < 8 := by rw [← HQ.out]; omega
  have hq8' : (q : Int) < 8 := by omega
  have cq := HR.out.cp q hq8
  have fq := HR.out.free (1 + q)
  have k10 : (w.setCell ⟨B, 1 + q, none⟩ (.int .i64 x)).cell? ⟨B, 10, none⟩ = some (.map (some M)) := by rw [World.cell?_setCell_other _ _ _ _ (by intro c; injection c with c1 c2 c3; omega)]; exact c10
  have HOWN : Hid ((w.setCell ⟨B, 1 + q, none⟩ (.int .i64 x)).drew.drew.ownsMap Try.prog 3 unitElem M N D) := ownsMap_same hown (Below.heap_setCell w ⟨B, 1 + q, none⟩ _ M (fun e => HR.out.ne e.symm))
  have HADD : Hid (∀ w1 : World, w1.ownsMap Try.prog 3 unitElem M (N + 1) (D.put (.int .i64 x) (.agg [])) → (w.setCell ⟨B, 1 + q, none⟩ (.int .i64 x)).drew.drew.mapTurned w1 M → Rg w1 B M s o (fun j => if j = q then x else ps j) (L ++ [x]) ∧ Two B M w w1) := fun w1 h1 h2 => Rg.added HR.out (by rw [HL.out]; exact HQ.out) (by rw [HL.out]; exact hN) HX.out.1 HX.out.2 HD.out HTY.out h1 ((Below.refl _ _).drew.drew) h2
  clear hown
  go_enter Try.func30, Try.ntmps30
  go_wp2
  go_region_held_law (fun w' => w'.cell? ⟨B, 0, none⟩ = some (.int .i64 s) ∧ w'.cell? ⟨B, 10, none⟩ = some (.map (some M))) (first | exact ⟨c0, c10⟩)
    (first | (refine step_len _ rfl _ 53 rfl Try.underlying53 M N L HL.out rfl (SetM.same HR.out.set rfl) (some 8) rfl ?_))
  go_wp2
  go_region_law
    (first | (refine step_len _ rfl _ 53 rfl Try.underlying53 M N L HL.out rfl (SetM.same HR.out.set rfl) (some 22) rfl ?_) | (go_simp; go_at_call 33; refine Calls.mono (place_any B o N _ c9 ho (by omega)) ?_; rintro u w2 ⟨rfl, rfl⟩; rw [HQ.out]))
  clear c0 c9
  go_wp2_with (at_mapUpdate; refine wpList_mapUpdate_in _ rfl _ _ _ 53 rfl 3 58 keyed3 Try.underlying53 unitElem M N D rfl HOWN.out (by unfold maxLen; omega) _ _ _ rfl rfl hkey _ [] unitElem_mk ?_; intro w1 hown1 hturn1; have HZ : Hid _ := HADD.out _ hown1 hturn1; clear hown1 hturn1)
  refine bodyPost_end (v := .tuple #[]) (by simp [results, Try.results30, go_sem]) rfl ⟨rfl, ⟨_, _, HZ.out.1⟩, HZ.out.2⟩
set_option maxHeartbeats 1000000 in
set_option maxRecDepth 100000 in
theorem add_full (B M N : Nat) (x y : Int) (o : Nat) (ps : Nat → Int) (L : List Int) (w : World) (h : Rg w B M ((N + 1 : Nat) : Int) o ps (y :: L)) (hL : L.length = N) (hx : 0 ≤ x ∧ x ≤ 1023) (hn : x ∉ L) :
    Calls Try.prog 30 #[rp B, .int .i64 x] w fun e w' => e = .returned (.tuple #[]) ∧ (∃ o' ps', Rg w' B M ((N + 1 : Nat) : Int) o' ps' (L ++ [x])) ∧ Two B M w w' := by
  have HR : Hid _ := h
  have HL : Hid _ := hL
  have HL1 : Hid ((y :: L).length = N + 1) := by show _ = _; simp [hL]
  have HX : Hid _ := And.intro hx hn
  have c0 := h.c0
  have c10 := h.c10
  have hN8 : N < 8 := by have := h.s8; omega
  have hkey : keyOf Try.prog 3 (.int .i64 x) = some (.int .i64 x) := keyOf_int_mk Try.underlying3 (wf_page hx)
  clear h hL hx hn
  show Calls Try.prog 30 #[.pointer (some ⟨B, 0, none⟩), .int .i64 x] w _
  obtain ⟨s, HS⟩ : ∃ s, Hid (((N + 1 : Nat) : Int) = s) := ⟨_, rfl⟩
  have hNs : (N : Int) < s := by rw [← HS.out]; omega
  have heq : (((N + 1 : Nat) : Int) == s) = true := by rw [HS.out]; simp
  rw [HS.out] at c0 HR ⊢
  obtain ⟨N1, HN1⟩ : ∃ N1, Hid (N + 1 = N1) := ⟨_, rfl⟩
  rw [HN1.out] at HL1 heq
  have heq' : (N1 : Int) = s := by simpa using heq
  subst heq'
  clear heq
  go_enter Try.func30, Try.ntmps30
  go_wp2
  go_region_held_law (fun w' => w'.cell? ⟨B, 0, none⟩ = some (.int .i64 (N1 : Int)) ∧ w'.cell? ⟨B, 10, none⟩ = some (.map (some M))) (first | exact ⟨c0, c10⟩)
    (first | (refine step_len _ rfl _ 53 rfl Try.underlying53 M N1 (y :: L) HL1.out rfl (SetM.same HR.out.set rfl) (some 8) rfl ?_))
  clear c0 c10
  go_wp2_with fail
  refine Calls.mono (drop_any B M N1 y o ps L _ (Rg.below HR.out (Below.refl _ _).drew)) ?_
  rintro u w2 ⟨rfl, hr2, ht2⟩
  have HT2 : Hid _ := Two.drew ht2
  have ho2 : (o + 1) % 8 < 8 := by omega
  clear HR ht2
  generalize (o + 1) % 8 = o2 at hr2 ho2
  have HR : Hid _ := hr2
  obtain ⟨D, hown, hD1, hD2⟩ := hr2.set
  have HD : Hid _ := And.intro hD1 hD2
  have HTY : Hid _ := hown.tidy keyed3
  rw [HL.out] at hown
  clear hr2 hD1 hD2
  have c10 := HR.out.c10
  have c9 := HR.out.c9
  obtain ⟨q, HQ⟩ : ∃ q, Hid ((o2 + N) % 8 = q) := ⟨_, rfl⟩
  have hq8 : q < 8 := by rw [← HQ.out]; omega
  have hq8' : (q : Int) < 8 := by omega
  have cq := HR.out.cp q hq8
  have fq := HR.out.free (1 + q)
  have k10 : (w2.setCell ⟨B, 1 + q, none⟩ (.int .i64 x)).cell? ⟨B, 10, none⟩ = some (.map (some M)) := by rw [World.cell?_setCell_other _ _ _ _ (by intro c; injection c with c1 c2 c3; omega)]; exact c10
  have HOWN : Hid ((w2.setCell ⟨B, 1 + q, none⟩ (.int .i64 x)).drew.ownsMap Try.prog 3 unitElem M N D) := ownsMap_same hown (Below.heap_setCell w2 ⟨B, 1 + q, none⟩ _ M (fun e => HR.out.ne e.symm))
  have HADD : Hid (∀ w1 : World, w1.ownsMap Try.prog 3 unitElem M (N + 1) (D.put (.int .i64 x) (.agg [])) → (w2.setCell ⟨B, 1 + q, none⟩ (.int .i64 x)).drew.mapTurned w1 M → Rg w1 B M (N1 : Int) o2 (fun j => if j = q then x else ps j) (L ++ [x]) ∧ Two B M w w1) := fun w1 h1 h2 => by
    have g := Rg.added HR.out (by rw [HL.out]; exact HQ.out) (by rw [HL.out]; exact hNs) HX.out.1 HX.out.2 HD.out HTY.out h1 ((Below.refl _ _).drew) h2
    exact ⟨g.1, HT2.out.trans g.2⟩
  clear hown
  go_wp2
  go_region_law
    (first | (refine step_len _ rfl _ 53 rfl Try.underlying53 M N L HL.out rfl (SetM.same HR.out.set rfl) (some 22) rfl ?_) | (go_simp; go_at_call 33; refine Calls.mono (place_any B o2 N _ c9 ho2 (by omega)) ?_; rintro u w2 ⟨rfl, rfl⟩; rw [HQ.out]))
  clear c9
  go_wp2_with (at_mapUpdate; refine wpList_mapUpdate_in _ rfl _ _ _ 53 rfl 3 58 keyed3 Try.underlying53 unitElem M N D rfl HOWN.out (by unfold maxLen; omega) _ _ _ rfl rfl hkey _ [] unitElem_mk ?_; intro w1 hown1 hturn1; have HZ : Hid _ := HADD.out _ hown1 hturn1; clear hown1 hturn1)
  refine bodyPost_end (v := .tuple #[]) (by simp [results, Try.results30, go_sem]) rfl ⟨rfl, ⟨_, _, HZ.out.1⟩, HZ.out.2⟩
theorem add_any (B M : Nat) (s x : Int) (o : Nat) (ps : Nat → Int) (L : List Int) (w : World) (h : Rg w B M s o ps L) (hx : 0 ≤ x ∧ x ≤ 1023) (hn : x ∉ L) :
    Calls Try.prog 30 #[rp B, .int .i64 x] w fun e w' => e = .returned (.tuple #[]) ∧ (∃ o' ps', Rg w' B M s o' ps' (pushU s L x)) ∧ Two B M w w' := by
  have h8 := h.s8
  have hls := h.ls
  unfold pushU
  by_cases hf : (L.length : Int) = s
  · rw [if_pos hf]
    match L, h, hf with
    | [], _, hf => simp at hf; omega
    | y :: L', h, hf =>
      have e : s = ((L'.length + 1 : Nat) : Int) := by rw [← hf]; simp
      subst e
      exact add_full B M L'.length x y o ps L' w h rfl hx (fun c => hn (by simp [c]))
  · rw [if_neg hf]
    exact add_room B M L.length s x o ps L w h rfl (by omega) hx hn
end Go.Proofs.Ytdjfijkgmeapdaa
