
/-
  The place of the window that has an address: the specification's and the program's own functions answer alike. Conditions: the sizes are numbers of 64 bits; the slice's capacity is at least its length.
-/
import Derived.Test.YtanffdedignegaaBas
import Derived.Test.YtanffdedignegaaProg
import Derived.Test.YtanffdedignegaaSnd
namespace Go.Proofs.Ytanffdedignegaa
open Go.ChangeShapes Go.WideShapes Go.ChangeAt Go.RowKit Go.Deep Go.Shelf
set_option linter.unusedVariables false
attribute [local go_sem] Oper.semAt_some

/-- 'r' is the first place below 'N' whose window has the address, or -1. -/
def AtP (xs : List Wn) (N : Nat) (ad r : Int) : Prop :=
  (r = -1 ∧ ∀ i, i < N → ¬ Has (xs.getD i wn0) ad) ∨ ∃ k : Nat, k < N ∧ r = (k : Int) ∧ Has (xs.getD k wn0) ad ∧ ∀ i, i < k → ¬ Has (xs.getD i wn0) ad
theorem AtP.uniq {xs : List Wn} {N : Nat} {ad r r' : Int} (h : AtP xs N ad r) (g : AtP xs N ad r') : r = r' := by
  rcases h with ⟨h1, h2⟩ | ⟨k, h1, h2, h3, h4⟩ <;> rcases g with ⟨g1, g2⟩ | ⟨j, g1, g2, g3, g4⟩
  · omega
  · exact absurd g3 (h2 j g1)
  · exact absurd h3 (g2 k h1)
  · rcases Nat.lt_trichotomy k j with e | e | e
    · exact absurd h3 (g4 k e)
    · subst e; omega
    · exact absurd g3 (h4 j e)
theorem AtP.ex (xs : List Wn) (ad : Int) : ∀ N, ∃ r, AtP xs N ad r
  | 0 => ⟨-1, .inl ⟨rfl, fun i hi => absurd hi (by omega)⟩⟩
  | N + 1 => by
    obtain ⟨r, hr⟩ := AtP.ex xs ad N
    rcases hr with ⟨h1, h2⟩ | ⟨k, h1, h2, h3, h4⟩
    · by_cases h : Has (xs.getD N wn0) ad
      · exact ⟨N, .inr ⟨N, by omega, rfl, h, h2⟩⟩
      · refine ⟨-1, .inl ⟨rfl, fun i hi => ?_⟩⟩
        by_cases e : i = N
        · subst e; exact h
        · exact h2 i (by omega)
    · exact ⟨r, .inr ⟨k, by omega, h2, h3, h4⟩⟩
theorem WsOk.at {xs : List Wn} (h : WsOk xs) {k : Nat} (hk : k < xs.length) : WOk (xs.getD k wn0) := (h.2 k hk).1
theorem list_last {α : Type} {f : α → Nat} {pre : List α} {x : α} {k : Nat} (h : (pre ++ [x]).map f = List.range k) : f x + 1 = k ∧ pre.map f = List.range (f x) := by
  have hl := congrArg List.length h
  simp only [List.length_map, List.length_append, List.length_cons, List.length_nil, List.length_range] at hl
  obtain ⟨m, rfl⟩ : ∃ m, k = m + 1 := ⟨k - 1, by omega⟩
  rw [List.range_succ, List.map_append] at h
  have := List.append_inj h (by simp; omega)
  simp at this
  exact ⟨by rw [this.2], by rw [this.2]; exact this.1⟩
theorem mem_range_map {α : Type} {f : α → Nat} {pre : List α} {k : Nat} (h : pre.map f = List.range k) {i : Nat} (hi : i < k) : ∃ y ∈ pre, f y = i := by
  have : i ∈ pre.map f := by rw [h]; exact List.mem_range.2 hi
  exact List.mem_map.1 this
set_option maxRecDepth 100000 in
set_option maxHeartbeats 4000000 in
theorem impl_at (a : Option Addr) (cap n : Nat) (xs : List Wn) (q : Bool) (ad r : Int) (N : Nat) (w : World) (hs : ASeg w a xs) (hf : Fit xs) (hl : xs.length = n) (hn : n ≤ 9223372036854775807) (hc : n ≤ cap) (hq : q = true ↔ WsOk xs) (hN0 : q = false → N = 0) (hN1 : q = true → N = n) (hr : AtP xs N ad r) :
    Calls Try.prog 26 #[.slice a n cap, .int .i64 ad] w fun e w' => e = .returned (.int .i64 r) ∧ Below w.heap.size w w' := by
  have hlow := fun h0 b off e => ASeg.low hs hl h0 b off e
  refine (callsIn_wide (n := 6)).1 ?_
  refine callsIn_of_wp_marks Try.func26 rfl trivial ?_ rfl
  simp only [Try.ntmps26, List.size_toArray, List.length_cons, List.length_nil, Nat.reduceAdd, Nat.reduceSub, Array.replicate_succ, Array.replicate_zero, List.push_toArray, List.append_toArray, List.nil_append, List.cons_append]
  gi_wp2_with (refine ⟨trivial, ?_⟩; gi_at_call 44; refine (snd_in _ _ _ _ _).mono ?_; rintro e w' ⟨rfl, rfl⟩)
  have hal1 : Below w.heap.size w (w.alloc (.cells #[.int .i64 ad] 3)) := (Below.refl _ _).alloc (Nat.le_refl _) _
  have hal2 := hal1.alloc hal1.size (.cells #[.int .i64 0] 3)
  have hal3 := hal2.alloc hal2.size (.cells #[.slice a n cap] 24)
  have bA := ((Bk.new w #[.int .i64 ad] 3 w.heap.size rfl).alloc (.cells #[.int .i64 0] 3)).alloc (.cells #[.slice a n cap] 24)
  have bR := (Bk.new (w.alloc (.cells #[.int .i64 ad] 3)) #[.int .i64 0] 3 (w.heap.size + 1) (by simp)).alloc (.cells #[.slice a n cap] 24)
  have bS := Bk.new ((w.alloc (.cells #[.int .i64 ad] 3)).alloc (.cells #[.int .i64 0] 3)) #[.slice a n cap] 24 (w.heap.size + 1 + 1) (by simp)
  have hseg := hs.below hal3
  obtain ⟨W0, hW0⟩ : ∃ W0, ((w.alloc (.cells #[.int .i64 ad] 3)).alloc (.cells #[.int .i64 0] 3)).alloc (.cells #[.slice a n cap] 24) = W0 := ⟨_, rfl⟩
  rw [hW0] at bA bR bS hseg hal3 ⊢
  have hsz : W0.heap.size = w.heap.size + 3 := by rw [← hW0]; simp
  clear hW0 hal1 hal2 hs
  refine wpIn_rangeFunc_ownH (Kp := KB w.heap.size (w.heap.size + 1 + 1)) rfl (by omega) (gf := 60) (lb := #[.pointer (some ⟨w.heap.size + 1 + 1, 0, none⟩)]) rfl trivial (enters_of Try.func60 (by kernel_rfl) rfl)
    (snd_stops (6 - 1) (by omega) (w.heap.size + 1 + 1) w.heap.size n cap a xs q hq hf hl hn hc N hN0 hN1 W0 (by omega) (by omega) (bS.cell 0 _ rfl) hseg hlow) (fun h g => h.trans g)
    (fun W l o o' hl ho h1 h2 => ⟨belowK_b (w := W0) (by omega) W l o o' hl ho h1 h2, by
      have hne : w.heap.size + 1 + 1 ≠ l := by omega
      simp [World.putObj, Ne.symm hne]⟩) (Below.refl _ _) (fun _ => rfl)
    (fun pre W => (Bk W w.heap.size #[.int .i64 ad] ∧ Bk W (w.heap.size + 1) #[.int .i64 0] ∧ Below w.heap.size w W ∧ W0.heap.size ≤ W.heap.size) ∧ ∀ y ∈ pre, ¬ Has (xs.getD y.1 wn0) ad)
    (fun c pre W => c = .ret ∧ ∃ pre' x, pre = pre' ++ [x] ∧ Has (xs.getD x.1 wn0) ad ∧ (∀ y ∈ pre', ¬ Has (xs.getD y.1 wn0) ad) ∧ Bk W (w.heap.size + 1) #[.int .i64 (x.1 : Int)] ∧ Below w.heap.size w W)
    (fun s A B row hs hg hr => by
      obtain ⟨⟨h1, h2, h3, h4⟩, h5⟩ := hs
      have hr' := fun r e => (hr r e).2
      exact ⟨⟨h1.own (by simp) hg hr', h2.own (by simp) hg hr', Below.grown h3 hg h3.size (fun k e => by have := (hr k e).1; omega), Nat.le_trans h4 hg.size⟩, h5⟩)
    (fun c s A B row hs hg hr => by
      obtain ⟨h0, pre', x, h1, h2, h3, h4, h5⟩ := hs
      have hr' := fun r e => (hr r e).2
      exact ⟨h0, pre', x, h1, h2, h3, h4.own (by simp) hg hr', Below.grown h5 hg h5.size (fun k e => by have := (hr k e).1; omega)⟩)
    ⟨⟨bA, bR, hal3, Nat.le_refl _⟩, by simp⟩
    (fun x a' W => ∃ Bx, w.heap.size + 1 + 1 < Bx ∧ Bk W Bx #[.int .i64 (xs.getD x.1 wn0).1, .int .i64 (xs.getD x.1 wn0).2.1, .int .i64 (xs.getD x.1 wn0).2.2] ∧ a' = { tmps := #[.slice a n cap, .int .i64 ad, undef, .pointer (some ⟨w.heap.size, 0, none⟩), .pointer (some ⟨w.heap.size + 1, 0, none⟩), .int .i64 (x.1 : Int), .pointer (some ⟨Bx, 0, none⟩), .slice a n cap, .func (.func 60) #[] #[.pointer (some ⟨w.heap.size + 1 + 1, 0, none⟩)], .int .i64 (x.1 : Int), win (xs.getD x.1 wn0).1 (xs.getD x.1 wn0).2.1 (xs.getD x.1 wn0).2.2, undef, undef, undef, undef], defers := [] })
    (fun x a' _ A B row hs hg hr => by
      obtain ⟨Bx, h1, h2, h3⟩ := hs
      exact ⟨Bx, h1, h2.own (by simp) hg (fun r e => (hr r e).2), h3⟩)
    ?assign ?body ?done ?stop
  case assign =>
    rintro l pre x W K ⟨⟨h1, h2, h3, h4⟩, h5⟩ hK
    generalize xs.getD x.1 wn0 = z at hK ⊢
    have hal : Below W.heap.size W (W.alloc (.cells #[.int .i64 z.1, .int .i64 z.2.1, .int .i64 z.2.2] 40)) := (Below.refl _ _).alloc (Nat.le_refl _) _
    gi_wp2
    exact hK _ _ ((KeepsOthers.alloc _ _).from _) ⟨hal.mono h3.size, hal.block _ (by omega)⟩ ⟨⟨h1.below hal, h2.below hal, h3.trans (hal.mono h3.size), Nat.le_trans h4 hal.size⟩, h5⟩ ⟨W.heap.size, by omega, Bk.new W _ 40 _ rfl, rfl⟩
  case body =>
    rintro l pre x a' W hl hr2 ⟨⟨h1, h2, h3, h4⟩, h5⟩ ⟨Bx, hBx, bX, rfl⟩ hlt
    have hfit := (WsOk.at x.2.2 x.2.1).fit
    obtain ⟨qh, hqh⟩ := told (Has (xs.getD x.1 wn0) ad)
    have HQH : Hid _ := hqh
    have HH : Hid (∀ X, Calls Try.prog 45 #[win (xs.getD x.1 wn0).1 (xs.getD x.1 wn0).2.1 (xs.getD x.1 wn0).2.2, .int .i64 ad] X fun e w' => e = .returned (.bool qh) ∧ Below X.heap.size X w') := fun X => impl_has _ _ _ ad qh X hfit hqh
    clear hqh hfit
    have HHX : Hid (Has (xs.getD x.1 wn0) ad → Has (xs.getD x.1 wn0) ad) := fun h => h
    generalize xs.getD x.1 wn0 = z at bX HH ⊢
    obtain ⟨z1, z2, z3⟩ := z
    simp only at bX HH ⊢
    have x0 := bX.cell 0 _ rfl
    have x1 := bX.cell 1 _ rfl
    have x2 := bX.cell 2 _ rfl
    have a0 := h1.cell 0 _ rfl
    have hXB := bX.lt
    cases qh
    · have HNO : Hid (∀ y ∈ pre ++ [x], ¬ Has (xs.getD y.1 wn0) ad) := fun y hy hh => by
        rcases List.mem_append.1 hy with g | g
        · exact h5 y g hh
        · rw [List.mem_singleton.1 g] at hh
          have := HQH.out.2 hh
          cases this
      clear h5
      gi_wp2_with (refine ⟨trivial, ?_⟩; gi_at_call 45; refine (CallsIn.inRound l (callsIn_wide.2 (HH.out _))).mono ?_; rintro e w' ⟨rfl, hb6⟩)
      exact ⟨KeepsOthers.from (KeepsOthers.of_grownBy (row := none) ⟨hb6.os, hb6.tape, hb6.output, hb6.size, fun k hk _ => hb6.block k hk⟩ (by simp)) _, ⟨hb6.mono h3.size, hb6.block _ (by omega)⟩, ⟨h1.below hb6, h2.below hb6, h3.trans (hb6.mono h3.size), Nat.le_trans h4 hb6.size⟩, HNO.out⟩
    · have hx : Has (xs.getD x.1 wn0) ad := HQH.out.1 rfl
      have HX : Hid _ := And.intro hx h5
      clear hx h5
      gi_wp2_with (refine ⟨trivial, ?_⟩; gi_at_call 45; refine (CallsIn.inRound l (callsIn_wide.2 (HH.out _))).mono ?_; rintro e w' ⟨rfl, hb6⟩; have r0 := (h2.below hb6).cell 0 _ rfl; have rf := (h2.below hb6).free)
      have hb7 : Below w.heap.size w (w'.setCell ⟨w.heap.size + 1, 0, none⟩ (.int .i64 (x.1 : Int))) := (h3.trans (hb6.mono h3.size)).setCell (p := ⟨w.heap.size + 1, 0, none⟩) (by simp) _
      refine ⟨(KeepsOthers.from (KeepsOthers.of_grownBy (row := none) ⟨hb6.os, hb6.tape, hb6.output, hb6.size, fun k hk _ => hb6.block k hk⟩ (by simp)) _).trans ((KeepsOthers.setCell _ _ _).from _), rfl, pre, x, rfl, HX.out.1, HX.out.2, (h2.below hb6).set 0 (.int .i64 (x.1 : Int)) (by simp) rfl, hb7⟩
  case done =>
    rintro D ys W hD hys ⟨⟨h1, h2, h3, h4⟩, h5⟩ hK
    have HT : Hid (r = -1) := AtP.uniq hr (.inl ⟨rfl, fun i hi => by
      obtain ⟨y, hy, e⟩ := mem_range_map hys hi
      have := h5 y hy
      rw [e] at this
      exact this⟩)
    have m0 := h2.cell 0 _ rfl
    have f0 := h2.free
    have h2' := h2.set 0 (.int .i64 (-1)) (by simp) rfl
    have hK' : (W.setCell ⟨w.heap.size + 1, 0, none⟩ (.int .i64 (-1))).heap[D]? = some (.deferred (some [])) := (KeepsOthers.setCell _ _ _).same D _ hK rfl
    have hg := grownBy_putObj' (W.setCell ⟨w.heap.size + 1, 0, none⟩ (.int .i64 (-1))) D (.deferred none)
    have hrow : ∀ r, some D = some r → ∃ o : Obj, (W.setCell ⟨w.heap.size + 1, 0, none⟩ (.int .i64 (-1))).heap[r]? = some o ∧ o.isCells = false := fun r e => by cases e; exact ⟨_, hK', rfl⟩
    have n0 := (h2'.own (by simp) hg hrow).cell 0 _ rfl
    have hb5 : Below w.heap.size w (W.setCell ⟨w.heap.size + 1, 0, none⟩ (.int .i64 (-1))) := h3.setCell (p := ⟨w.heap.size + 1, 0, none⟩) (by simp) _
    have HZ : Hid _ := Below.grown hb5 hg hb5.size (fun k e => by cases e; omega)
    clear hr h5 hys
    gi_wp2
    refine ⟨by simp, .inl ⟨_, _, rfl, run_takeDeferred hK', ?_⟩⟩
    exact ⟨.int .i64 (-1), by simp [results, Try.results26, go_sem, n0], ret_int HT.out.symm, HZ.out⟩
  case stop =>
    rintro D c pre W hD ⟨k, hk, hpre⟩ ⟨rfl, pre', x, rfl, h2, h3, h4, h5⟩ hK
    obtain ⟨e1, e2⟩ := list_last hpre
    have HT : Hid (r = (x.1 : Int)) := AtP.uniq hr (.inr ⟨x.1, by omega, rfl, h2, fun i hi => by
      obtain ⟨y, hy, e⟩ := mem_range_map e2 hi
      have := h3 y hy
      rw [e] at this
      exact this⟩)
    have hg := grownBy_putObj' W D (.deferred none)
    have hrow : ∀ r, some D = some r → ∃ o : Obj, W.heap[r]? = some o ∧ o.isCells = false := fun r e => by cases e; exact ⟨_, hK, rfl⟩
    have n0 := (h4.own (by simp) hg hrow).cell 0 _ rfl
    have HZ : Hid _ := Below.grown h5 hg h5.size (fun k e => by cases e; omega)
    clear hr h3 hpre e2
    gi_wp2
    refine ⟨by simp, .inl ⟨_, _, rfl, run_takeDeferred hK, ?_⟩⟩
    exact ⟨.int .i64 (x.1 : Int), by simp [results, Try.results26, go_sem, n0], ret_int HT.out.symm, HZ.out⟩
end Go.Proofs.Ytanffdedignegaa
