
/-
  The place of the window that has an address, in a list that is right: the specification's own function, the program's iterator and the program's function. Conditions: the slice's capacity is at least its length; the windows are right and lie apart.
-/
import Derived.Test.YtknipnenipdgiaaGreatDoorBas
import Derived.Test.YtknipnenipdgiaaGreatDoorClo3
import Derived.Test.YtknipnenipdgiaaGreatDoorApj
import Derived.RangeFuncBox
import Derived.RangeFuncLeaves
import Derived.RangeFuncNested
import Derived.RangeFuncBound
import Derived.RangeFuncCalls
import Derived.Shelf.Abstract
import Derived.Shelf.RegionOpen
import Derived.OwnWalkIn
import Derived.TacticsInMore
import Derived.LoopNIn
import Derived.LoopIn
namespace Go.Proofs.YtknipnenipdgiaaGreatDoor
open Go.ChangeShapes Go.WideShapes Go.ChangeAt Go.RowKit Go.Deep Go.Shelf
set_option linter.unusedVariables false
attribute [local go_sem] Oper.semAt_some

/-- A list of windows that is right. -/
def WsOk (xs : List Wn) : Prop := xs.length ≤ 4 ∧ ∀ i, i < xs.length → WOk (xs.getD i wn0) ∧ ∀ j, j < i → ApartP (xs.getD j wn0) (xs.getD i wn0)
/-- A window's cells. -/
def P3 (w : World) (b o : Nat) (x : Wn) : Prop := w.cell? ⟨b, o, none⟩ = some (.int .i64 x.1) ∧ w.cell? ⟨b, o + 1, none⟩ = some (.int .i64 x.2.1) ∧ w.cell? ⟨b, o + 2, none⟩ = some (.int .i64 x.2.2)
theorem P3.of {w w' : World} {b o : Nat} {x : Wn} (h : P3 w b o x) (hc : ∀ i, w'.cell? ⟨b, i, none⟩ = w.cell? ⟨b, i, none⟩) : P3 w' b o x := ⟨(hc _).trans h.1, (hc _).trans h.2.1, (hc _).trans h.2.2⟩
def ASeg (w : World) (a : Option Addr) (xs : List Wn) : Prop := GSeg 3 w a xs.length (wiX xs)
theorem ASeg.at {w : World} {a : Option Addr} {xs : List Wn} (h : ASeg w a xs) (k : Nat) (hk : k < xs.length) : ∃ b off, a = some ⟨b, off, none⟩ ∧ b < w.heap.size ∧ P3 w b (off + k * 3) (xs.getD k wn0) := by
  obtain ⟨b, off, e, hlt, p⟩ := GSeg.at h k hk
  exact ⟨b, off, e, hlt, p 0 _ rfl, p 1 _ rfl, p 2 _ rfl⟩
theorem ASeg.below {w w' : World} {a : Option Addr} {xs : List Wn} (h : ASeg w a xs) (hb : Below w.heap.size w w') : ASeg w' a xs := GSeg.below h hb
set_option maxRecDepth 20000 in
theorem e_wok : ∀ args (v : World), (callFunc 204 args).run Tryz.prog v = .ok (.enter 204 args) v := enters_of Tryz.func204 (by kernel_rfl) rfl
set_option maxRecDepth 40000 in
set_option maxHeartbeats 4000000 in
theorem impl_wsok (a : Option Addr) (cap n : Nat) (xs : List Wn) (w : World) (hs : ASeg w a xs) (hl : xs.length = n) (hn : n ≤ 9223372036854775807) (hc : n ≤ cap) (ho : WsOk xs) :
    Calls Tryz.prog 138 #[.slice a n cap] w fun e w' => e = .returned (.bool true) ∧ Below w.heap.size w w' := by
  subst hl
  have h4 : (xs.length : Int) ≤ 4 := by have := ho.1; omega
  have hsz : ∀ i, i < xs.length → (xs.getD i wi0).2.1 ≤ 9223372036854775807 := fun i hi => by
    have h : WOk (xs.getD i wi0) := (ho.2 i hi).1
    unfold WOk WinOk at h
    omega
  have HE : Hid (∀ X, Below w.heap.size w X → Calls Tryz.prog 203 #[.slice a xs.length cap, .func (.func 204) #[] #[]] X fun e w' => e = .returned (.bool true) ∧ Below X.heap.size X w') := fun X hX =>
    wi_every a cap xs.length xs (fun _ => true) true 204 #[] X (hs.below hX) hn e_wok (fun i hi Y hY => impl_wok _ _ _ true Y (hsz i hi) ⟨fun _ => (ho.2 i hi).1, fun _ => rfl⟩) ⟨fun _ _ _ => rfl, fun _ => rfl⟩
  have HT : Hid (∀ X, Below w.heap.size w X → Calls Tryz.prog 205 #[.slice a xs.length cap, .func (.func 206) #[] #[]] X fun e w' => e = .returned (.bool true) ∧ Below X.heap.size X w') := fun X hX =>
    win_two a cap xs.length xs (fun _ _ => true) true 206 #[] X (hs.below hX) hn hc e_apart (fun i hi j hj Y hY => impl_apart _ _ true Y (hsz j (by omega)) (hsz i hi) ⟨fun _ => (ho.2 i hi).2 j hj, fun _ => rfl⟩) ⟨fun _ _ _ _ _ => rfl, fun _ => rfl⟩
  clear hs hsz ho hc
  go_enter Tryz.func138, Tryz.ntmps138
  go_wp2_with fail
  refine Calls.mono (HE.out _ (Below.refl _ _)) ?_
  rintro e w1 ⟨rfl, hb1⟩
  have HB1 : Hid (Below w.heap.size w w1) := hb1
  clear hb1
  go_wp2_with fail
  refine Calls.mono (HT.out _ HB1.out) ?_
  rintro e w2 ⟨rfl, hb2⟩
  have HB2 : Hid (Below w.heap.size w w2) := HB1.out.trans (hb2.mono HB1.out.size)
  clear hb2 HE HT
  go_wp2
  go_ret
  exact ⟨rfl, HB2.out⟩
/-- What lay below 'n₀', and the block 'Bs', lie as they lay. -/
structure KB (n₀ Bs : Nat) (W W' : World) : Prop where
  low : Below n₀ W W'
  box : W'.heap[Bs]? = W.heap[Bs]?
theorem KB.refl (n₀ Bs : Nat) (W : World) : KB n₀ Bs W W := ⟨Below.refl _ _, rfl⟩
theorem KB.trans {n₀ Bs : Nat} {A B C : World} (h : KB n₀ Bs A B) (g : KB n₀ Bs B C) : KB n₀ Bs A C := ⟨h.low.trans g.low, g.box.trans h.box⟩
theorem KB.of_below {n₀ Bs : Nat} {A B : World} (h : Below A.heap.size A B) (h1 : n₀ ≤ A.heap.size) (h2 : Bs < A.heap.size) : KB n₀ Bs A B := ⟨h.mono h1, h.block Bs h2⟩
/-- A place of a right list. -/
abbrev Pl (xs : List Wn) := { k : Nat // k < xs.length ∧ WsOk xs }
theorem abide {xs : List Wn} {J : List (Pl xs) → World → Prop} {B : Nat} (hJ : AbidesFrom B J) {s : List (Pl xs)} {X X' : World} (h : J s X) (hb : Below X.heap.size X X') : J s X' :=
  hJ s X X' none h ⟨hb.os, hb.tape, hb.output, hb.size, fun k hk _ => hb.block k hk⟩ (by simp)
theorem Bk.own {A B : World} {b : Nat} {cs : Array Value} {row : Option Nat} (h : Bk A b cs) (h0 : 0 < cs.size) (hg : A.grownBy B row) (hr : ∀ r, row = some r → ∃ o : Obj, A.heap[r]? = some o ∧ o.isCells = false) : Bk B b cs := by
  have hne : some b ≠ row := fun e => by
    obtain ⟨o, ho, hc⟩ := hr b e.symm
    have := h.cell 0 _ (Array.getElem?_eq_getElem h0)
    cases o <;> simp_all [World.cell?, Obj.isCells]
  have hk := hg.block b h.lt hne
  exact ⟨Nat.lt_of_lt_of_le h.lt hg.size, fun i v e => (World.cell?_of_block (a := ⟨b, i, none⟩) hk).trans (h.cell i v e), fun i => (World.frozen?_of_block (a := ⟨b, i, none⟩) hk).trans (h.free i)⟩
theorem ASeg.low {w : World} {a : Option Addr} {xs : List Wn} {len : Nat} (h : ASeg w a xs) (hl : xs.length = len) (h0 : 0 < len) (b off : Nat) (e : a = some ⟨b, off, none⟩) : b < w.heap.size := by
  obtain ⟨b', off', e', hlt, _⟩ := h (by omega)
  rw [e'] at e
  cases e
  exact hlt
end Go.Proofs.YtknipnenipdgiaaGreatDoor
namespace Go.Proofs.YtknipnenipdgiaaGreatDoor
open Go.ChangeShapes Go.WideShapes Go.ChangeAt Go.RowKit Go.Deep Go.Shelf
set_option linter.unusedVariables false
attribute [local go_sem] Oper.semAt_some

/-- 'r' is the first place below 'N' whose window has the address, or -1. -/
def AtP (xs : List Wn) (N : Nat) (ad r : Int) : Prop :=
  (r = -1 ∧ ∀ i, i < N → ¬ Has (xs.getD i wn0) ad) ∨ ∃ k : Nat, k < N ∧ r = (k : Int) ∧ Has (xs.getD k wn0) ad ∧ ∀ i, i < k → ¬ Has (xs.getD i wn0) ad
theorem AtP.uniq {xs : List Wn} {N : Nat} {ad r r' : Int} (h : AtP xs N ad r) (g : AtP xs N ad r') : r = r' := by
  rcases h with ⟨h1, h2⟩ | ⟨k, h1, h2, h3, h4⟩ <;> rcases g with ⟨g1, g2⟩ | ⟨j, g1, g2, g3, g4⟩
  · omega
  · exact absurd g3 (h2 j g1)
  · exact absurd h3 (g2 k h1)
  · rcases Nat.lt_trichotomy k j with e | e | e
    · exact absurd h3 (g4 k e)
    · subst e; omega
    · exact absurd g3 (h4 j e)
theorem AtP.ex (xs : List Wn) (ad : Int) : ∀ N, ∃ r, AtP xs N ad r
  | 0 => ⟨-1, .inl ⟨rfl, fun i hi => absurd hi (by omega)⟩⟩
  | N + 1 => by
    obtain ⟨r, hr⟩ := AtP.ex xs ad N
    rcases hr with ⟨h1, h2⟩ | ⟨k, h1, h2, h3, h4⟩
    · by_cases h : Has (xs.getD N wn0) ad
      · exact ⟨N, .inr ⟨N, by omega, rfl, h, h2⟩⟩
      · refine ⟨-1, .inl ⟨rfl, fun i hi => ?_⟩⟩
        by_cases e : i = N
        · subst e; exact h
        · exact h2 i (by omega)
    · exact ⟨r, .inr ⟨k, by omega, h2, h3, h4⟩⟩
theorem WsOk.at {xs : List Wn} (h : WsOk xs) {k : Nat} (hk : k < xs.length) : WOk (xs.getD k wn0) := (h.2 k hk).1
theorem list_last {α : Type} {f : α → Nat} {pre : List α} {x : α} {k : Nat} (h : (pre ++ [x]).map f = List.range k) : f x + 1 = k ∧ pre.map f = List.range (f x) := by
  have hl := congrArg List.length h
  simp only [List.length_map, List.length_append, List.length_cons, List.length_nil, List.length_range] at hl
  obtain ⟨m, rfl⟩ : ∃ m, k = m + 1 := ⟨k - 1, by omega⟩
  rw [List.range_succ, List.map_append] at h
  have := List.append_inj h (by simp; omega)
  simp at this
  exact ⟨by rw [this.2], by rw [this.2]; exact this.1⟩
theorem mem_range_map {α : Type} {f : α → Nat} {pre : List α} {k : Nat} (h : pre.map f = List.range k) {i : Nat} (hi : i < k) : ∃ y ∈ pre, f y = i := by
  have : i ∈ pre.map f := by rw [h]; exact List.mem_range.2 hi
  exact List.mem_map.1 this
end Go.Proofs.YtknipnenipdgiaaGreatDoor
namespace Go.Proofs.YtknipnenipdgiaaGreatDoor
open Go.ChangeShapes Go.WideShapes Go.ChangeAt Go.RowKit Go.Deep
set_option linter.unusedVariables false

end Go.Proofs.YtknipnenipdgiaaGreatDoor
