
/-
  The bytes of a list of windows: the program's own function. Conditions: the sizes are numbers of 64 bits; the slice's capacity is at least its length.
-/
import Derived.Test.YtfdjfjkbbfcodaaBas
import Derived.Test.YtfdjfjkbbfcodaaProg
import Derived.Test.YtfdjfjkbbfcodaaWat
namespace Go.Proofs.Ytfdjfjkbbfcodaa
open Go.ChangeShapes Go.WideShapes Go.ChangeAt Go.RowKit Go.Deep Go.Shelf
set_option linter.unusedVariables false
attribute [local go_sem] Oper.semAt_some

/-- The sizes of the first 'N' windows together. -/
def sumTo (xs : List Wn) : Nat → Int
  | 0 => 0
  | N + 1 => sumTo xs N + (xs.getD N wn0).2.1
def sumL (xs : List Wn) (ps : List Nat) : Int := ps.foldl (fun s k => s + (xs.getD k wn0).2.1) 0
theorem sumL_snoc (xs : List Wn) (ps : List Nat) (k : Nat) : sumL xs (ps ++ [k]) = sumL xs ps + (xs.getD k wn0).2.1 := by simp [sumL]
theorem sumL_range (xs : List Wn) : ∀ N, sumL xs (List.range N) = sumTo xs N
  | 0 => rfl
  | N + 1 => by rw [List.range_succ, sumL_snoc, sumL_range xs N]; rfl
set_option maxRecDepth 100000 in
set_option maxHeartbeats 4000000 in
theorem impl_reach (a : Option Addr) (cap n : Nat) (xs : List Wn) (q : Bool) (N : Nat) (w : World) (hs : ASeg w a xs) (hf : Fit xs) (hl : xs.length = n) (hn : n ≤ 9223372036854775807) (hc : n ≤ cap) (hq : q = true ↔ WsOk xs) (hN0 : q = false → N = 0) (hN1 : q = true → N = n) :
    Calls Try.prog 24 #[.slice a n cap] w fun e w' => e = .returned (.int .i64 (sumTo xs N)) ∧ Below w.heap.size w w' := by
  have hlow := fun h0 b off e => ASeg.low hs hl h0 b off e
  refine (callsIn_wide (n := 6)).1 ?_
  refine callsIn_of_wp_marks Try.func24 rfl trivial ?_ rfl
  simp only [Try.ntmps24, List.size_toArray, List.length_cons, List.length_nil, Nat.reduceAdd, Nat.reduceSub, Array.replicate_succ, Array.replicate_zero, List.push_toArray, List.append_toArray, List.nil_append, List.cons_append]
  gi_wp2_with (refine ⟨trivial, ?_⟩; gi_at_call 55; refine (snd_in _ _ _ _ _).mono ?_; rintro e w' ⟨rfl, rfl⟩)
  have hal1 : Below w.heap.size w (w.alloc (.cells #[.int .i64 0] 3)) := (Below.refl _ _).alloc (Nat.le_refl _) _
  have hal3 := hal1.alloc hal1.size (.cells #[.slice a n cap] 25)
  have bR := (Bk.new w #[.int .i64 0] 3 w.heap.size rfl).alloc (.cells #[.slice a n cap] 25)
  have bS := Bk.new (w.alloc (.cells #[.int .i64 0] 3)) #[.slice a n cap] 25 (w.heap.size + 1) (by simp)
  have hseg := hs.below hal3
  obtain ⟨W0, hW0⟩ : ∃ W0, (w.alloc (.cells #[.int .i64 0] 3)).alloc (.cells #[.slice a n cap] 25) = W0 := ⟨_, rfl⟩
  rw [hW0] at bR bS hseg hal3 ⊢
  have hsz : W0.heap.size = w.heap.size + 2 := by rw [← hW0]; simp
  clear hW0 hal1 hs
  refine wpIn_rangeFunc_ownH (Kp := KB w.heap.size (w.heap.size + 1)) rfl (by omega) (gf := 88) (lb := #[.pointer (some ⟨w.heap.size + 1, 0, none⟩)]) rfl trivial (enters_of Try.func88 (by kernel_rfl) rfl)
    (snd_stops (6 - 1) (by omega) (w.heap.size + 1) w.heap.size n cap a xs q hq hf hl hn hc N hN0 hN1 W0 (by omega) (by omega) (bS.cell 0 _ rfl) hseg hlow) (fun h g => h.trans g)
    (fun W l o o' hl ho h1 h2 => ⟨belowK_b (w := W0) (by omega) W l o o' hl ho h1 h2, by
      have hne : w.heap.size + 1 ≠ l := by omega
      simp [World.putObj, Ne.symm hne]⟩) (Below.refl _ _) (fun _ => rfl)
    (fun pre W => (Bk W w.heap.size #[.int .i64 (sumL xs (pre.map (·.1)))] ∧ Below w.heap.size w W ∧ W0.heap.size ≤ W.heap.size) ∧ 0 ≤ sumL xs (pre.map (·.1)) ∧ sumL xs (pre.map (·.1)) ≤ 2048 * pre.length)
    (fun _ _ _ => False)
    (fun s A B row hs hg hr => by
      obtain ⟨⟨h2, h3, h4⟩, h5⟩ := hs
      have hr' := fun r e => (hr r e).2
      exact ⟨⟨h2.own (by simp) hg hr', Below.grown h3 hg h3.size (fun k e => by have := (hr k e).1; omega), Nat.le_trans h4 hg.size⟩, h5⟩)
    (fun _ _ _ _ _ hs _ _ => hs)
    ⟨⟨bR, hal3, Nat.le_refl _⟩, by simp [sumL]⟩
    (fun x a' W => ∃ Bx, w.heap.size + 1 < Bx ∧ Bk W Bx #[.int .i64 (xs.getD x.1 wn0).1, .int .i64 (xs.getD x.1 wn0).2.1, .int .i64 (xs.getD x.1 wn0).2.2] ∧ a' = { tmps := #[.slice a n cap, undef, .int .i64 0, .pointer (some ⟨w.heap.size, 0, none⟩), undef, .pointer (some ⟨Bx, 0, none⟩), .slice a n cap, .func (.func 88) #[] #[.pointer (some ⟨w.heap.size + 1, 0, none⟩)], .int .i64 (x.1 : Int), win (xs.getD x.1 wn0).1 (xs.getD x.1 wn0).2.1 (xs.getD x.1 wn0).2.2, undef, undef, undef, undef, undef], defers := [] })
    (fun x a' _ A B row hs hg hr => by
      obtain ⟨Bx, h1, h2, h3⟩ := hs
      exact ⟨Bx, h1, h2.own (by simp) hg (fun r e => (hr r e).2), h3⟩)
    ?assign ?body ?done ?stop
  case assign =>
    rintro l pre x W K ⟨⟨h2, h3, h4⟩, h5⟩ hK
    generalize xs.getD x.1 wn0 = z at hK ⊢
    have hal : Below W.heap.size W (W.alloc (.cells #[.int .i64 z.1, .int .i64 z.2.1, .int .i64 z.2.2] 60)) := (Below.refl _ _).alloc (Nat.le_refl _) _
    gi_wp2
    exact hK _ _ ((KeepsOthers.alloc _ _).from _) ⟨hal.mono h3.size, hal.block _ (by omega)⟩ ⟨⟨h2.below hal, h3.trans (hal.mono h3.size), Nat.le_trans h4 hal.size⟩, h5⟩ ⟨W.heap.size, by omega, Bk.new W _ 60 _ rfl, rfl⟩
  case body =>
    rintro l pre x a' W hl2 hr2 ⟨⟨h2, h3, h4⟩, h5, h6⟩ ⟨Bx, hBx, bX, rfl⟩ hlt
    have hok := WsOk.at x.2.2 x.2.1
    have hle4 : pre.length ≤ 4 := by have := x.2.2.1; omega
    obtain ⟨o1, o2, o3, o4, o5, _⟩ := hok
    have HSN : Hid (sumL xs ((pre ++ [x]).map (·.1)) = sumL xs (pre.map (·.1)) + (xs.getD x.1 wn0).2.1) := by show _ = _; rw [List.map_append]; exact sumL_snoc _ _ _
    generalize sumL xs (pre.map (·.1)) = S at h2 h5 h6 HSN
    generalize xs.getD x.1 wn0 = z at bX HSN o1 o2 o3 o4 o5 ⊢
    obtain ⟨z1, z2, z3⟩ := z
    simp only at bX HSN o1 o2 o3 o4 o5 ⊢
    have x1 := bX.cell 1 _ rfl
    have s0 := h2.cell 0 _ rfl
    have sf := h2.free
    have HB5 : Hid (0 ≤ S + z2 ∧ S + z2 ≤ 2048 * ((pre ++ [x]).length : Nat)) := by
      show _ ∧ _
      simp only [List.length_append, List.length_cons, List.length_nil]
      omega
    have hw : IntKind.i64.wrap (S + z2) = S + z2 := by rw [IntKind.wrap_i64]; omega
    have h2' := h2.set 0 (.int .i64 (S + z2)) (by simp) rfl
    have hb7 : Below w.heap.size w (W.setCell ⟨w.heap.size, 0, none⟩ (.int .i64 (S + z2))) := h3.setCell (p := ⟨w.heap.size, 0, none⟩) (by simp) _
    have hkb : KB w.heap.size (w.heap.size + 1) W (W.setCell ⟨w.heap.size, 0, none⟩ (.int .i64 (S + z2))) := ⟨(Below.refl _ _).setCell (p := ⟨w.heap.size, 0, none⟩) (by simp) _, Below.heap_setCell _ _ _ _ (by simp)⟩
    have HZ : Hid _ := And.intro h2' (And.intro hb7 hkb)
    clear h2' hb7 hkb o3 o4 h2
    gi_wp2
    refine ⟨(KeepsOthers.setCell _ _ _).from _, HZ.out.2.2, ⟨by rw [HSN.out]; exact HZ.out.1, HZ.out.2.1, Nat.le_trans h4 HZ.out.2.2.low.size⟩, by rw [HSN.out]; exact HB5.out⟩
  case done =>
    rintro D ys W hD hys ⟨⟨h2, h3, h4⟩, h5⟩ hK
    rw [hys, sumL_range] at h2
    have s0 := h2.cell 0 _ rfl
    have hg := grownBy_putObj' W D (.deferred none)
    have HZ : Hid _ := Below.grown h3 hg h3.size (fun k e => by cases e; omega)
    clear h5 hys
    gi_wp2
    refine ⟨by simp, .inl ⟨_, _, rfl, run_takeDeferred hK, ?_⟩⟩
    exact ⟨.int .i64 (sumTo xs N), by simp [results, Try.results24, go_sem], rfl, HZ.out⟩
  case stop =>
    rintro D c pre W _ _ h _
    exact h.elim
end Go.Proofs.Ytfdjfjkbbfcodaa
