
/-
  The place of the window that has an address, in a list that is right: the specification's own function, the program's iterator and the program's function. Conditions: the slice's capacity is at least its length; the windows are right and lie apart.
-/
import Derived.Test.YtdmlgnmklnaehaaGreatDoorBas
import Derived.Test.YtdmlgnmklnaehaaGreatDoorClo3
import Derived.Test.YtdmlgnmklnaehaaGreatDoorApj
import Derived.RangeFuncBox
import Derived.RangeFuncLeaves
import Derived.RangeFuncNested
import Derived.RangeFuncBound
import Derived.RangeFuncCalls
import Derived.Shelf.Abstract
import Derived.Shelf.RegionOpen
import Derived.OwnWalkIn
import Derived.TacticsInMore
import Derived.LoopNIn
import Derived.LoopIn
namespace Go.Proofs.YtdmlgnmklnaehaaGreatDoor
open Go.ChangeShapes Go.WideShapes Go.ChangeAt Go.RowKit Go.Deep Go.Shelf
set_option linter.unusedVariables false
attribute [local go_sem] Oper.semAt_some

/-- A list of windows that is right. -/
def WsOk (xs : List Wn) : Prop := xs.length ≤ 4 ∧ ∀ i, i < xs.length → WOk (xs.getD i wn0) ∧ ∀ j, j < i → ApartP (xs.getD j wn0) (xs.getD i wn0)
/-- A window's cells. -/
def P3 (w : World) (b o : Nat) (x : Wn) : Prop := w.cell? ⟨b, o, none⟩ = some (.int .i64 x.1) ∧ w.cell? ⟨b, o + 1, none⟩ = some (.int .i64 x.2.1) ∧ w.cell? ⟨b, o + 2, none⟩ = some (.int .i64 x.2.2)
theorem P3.of {w w' : World} {b o : Nat} {x : Wn} (h : P3 w b o x) (hc : ∀ i, w'.cell? ⟨b, i, none⟩ = w.cell? ⟨b, i, none⟩) : P3 w' b o x := ⟨(hc _).trans h.1, (hc _).trans h.2.1, (hc _).trans h.2.2⟩
def ASeg (w : World) (a : Option Addr) (xs : List Wn) : Prop := GSeg 3 w a xs.length (wiX xs)
theorem ASeg.at {w : World} {a : Option Addr} {xs : List Wn} (h : ASeg w a xs) (k : Nat) (hk : k < xs.length) : ∃ b off, a = some ⟨b, off, none⟩ ∧ b < w.heap.size ∧ P3 w b (off + k * 3) (xs.getD k wn0) := by
  obtain ⟨b, off, e, hlt, p⟩ := GSeg.at h k hk
  exact ⟨b, off, e, hlt, p 0 _ rfl, p 1 _ rfl, p 2 _ rfl⟩
theorem ASeg.below {w w' : World} {a : Option Addr} {xs : List Wn} (h : ASeg w a xs) (hb : Below w.heap.size w w') : ASeg w' a xs := GSeg.below h hb
set_option maxRecDepth 20000 in
theorem e_wok : ∀ args (v : World), (callFunc 119 args).run Tryz.prog v = .ok (.enter 119 args) v := enters_of Tryz.func119 (by kernel_rfl) rfl
set_option maxRecDepth 40000 in
set_option maxHeartbeats 4000000 in
theorem impl_wsok (a : Option Addr) (cap n : Nat) (xs : List Wn) (w : World) (hs : ASeg w a xs) (hl : xs.length = n) (hn : n ≤ 9223372036854775807) (hc : n ≤ cap) (ho : WsOk xs) :
    Calls Tryz.prog 81 #[.slice a n cap] w fun e w' => e = .returned (.bool true) ∧ Below w.heap.size w w' := by
  subst hl
  have h4 : (xs.length : Int) ≤ 4 := by have := ho.1; omega
  have hsz : ∀ i, i < xs.length → (xs.getD i wi0).2.1 ≤ 9223372036854775807 := fun i hi => by
    have h : WOk (xs.getD i wi0) := (ho.2 i hi).1
    unfold WOk WinOk at h
    omega
  have HE : Hid (∀ X, Below w.heap.size w X → Calls Tryz.prog 118 #[.slice a xs.length cap, .func (.func 119) #[] #[]] X fun e w' => e = .returned (.bool true) ∧ Below X.heap.size X w') := fun X hX =>
    wi_every a cap xs.length xs (fun _ => true) true 119 #[] X (hs.below hX) hn e_wok (fun i hi Y hY => impl_wok _ _ _ true Y (hsz i hi) ⟨fun _ => (ho.2 i hi).1, fun _ => rfl⟩) ⟨fun _ _ _ => rfl, fun _ => rfl⟩
  have HT : Hid (∀ X, Below w.heap.size w X → Calls Tryz.prog 120 #[.slice a xs.length cap, .func (.func 121) #[] #[]] X fun e w' => e = .returned (.bool true) ∧ Below X.heap.size X w') := fun X hX =>
    win_two a cap xs.length xs (fun _ _ => true) true 121 #[] X (hs.below hX) hn hc e_apart (fun i hi j hj Y hY => impl_apart _ _ true Y (hsz j (by omega)) (hsz i hi) ⟨fun _ => (ho.2 i hi).2 j hj, fun _ => rfl⟩) ⟨fun _ _ _ _ _ => rfl, fun _ => rfl⟩
  clear hs hsz ho hc
  go_enter Tryz.func81, Tryz.ntmps81
  go_wp2_with fail
  refine Calls.mono (HE.out _ (Below.refl _ _)) ?_
  rintro e w1 ⟨rfl, hb1⟩
  have HB1 : Hid (Below w.heap.size w w1) := hb1
  clear hb1
  go_wp2_with fail
  refine Calls.mono (HT.out _ HB1.out) ?_
  rintro e w2 ⟨rfl, hb2⟩
  have HB2 : Hid (Below w.heap.size w w2) := HB1.out.trans (hb2.mono HB1.out.size)
  clear hb2 HE HT
  go_wp2
  go_ret
  exact ⟨rfl, HB2.out⟩
/-- What lay below 'n₀', and the block 'Bs', lie as they lay. -/
structure KB (n₀ Bs : Nat) (W W' : World) : Prop where
  low : Below n₀ W W'
  box : W'.heap[Bs]? = W.heap[Bs]?
theorem KB.refl (n₀ Bs : Nat) (W : World) : KB n₀ Bs W W := ⟨Below.refl _ _, rfl⟩
theorem KB.trans {n₀ Bs : Nat} {A B C : World} (h : KB n₀ Bs A B) (g : KB n₀ Bs B C) : KB n₀ Bs A C := ⟨h.low.trans g.low, g.box.trans h.box⟩
theorem KB.of_below {n₀ Bs : Nat} {A B : World} (h : Below A.heap.size A B) (h1 : n₀ ≤ A.heap.size) (h2 : Bs < A.heap.size) : KB n₀ Bs A B := ⟨h.mono h1, h.block Bs h2⟩
/-- A place of a right list. -/
abbrev Pl (xs : List Wn) := { k : Nat // k < xs.length ∧ WsOk xs }
theorem abide {xs : List Wn} {J : List (Pl xs) → World → Prop} {B : Nat} (hJ : AbidesFrom B J) {s : List (Pl xs)} {X X' : World} (h : J s X) (hb : Below X.heap.size X X') : J s X' :=
  hJ s X X' none h ⟨hb.os, hb.tape, hb.output, hb.size, fun k hk _ => hb.block k hk⟩ (by simp)
theorem snd_in (n : Nat) (a : Option Addr) (len cap : Nat) (w : World) :
    CallsIn Fence.wide n Tryz.prog 82 #[.slice a len cap] w fun e w' => e = .returned (.func (.func 122) #[] #[.pointer (some ⟨w.heap.size, 0, none⟩)]) ∧ w' = w.alloc (.cells #[.slice a len cap] 76) := by
  refine callsIn_of_wp Tryz.func82 rfl trivial ?_ rfl
  simp only [Tryz.ntmps82, List.size_toArray, List.length_cons, List.length_nil, Nat.reduceAdd, Nat.reduceSub, Array.replicate_succ, Array.replicate_zero, List.push_toArray, List.append_toArray, List.nil_append, List.cons_append]
  gi_wp2
  go_ret
  exact ⟨rfl, rfl⟩
set_option maxRecDepth 100000 in
set_option maxHeartbeats 4000000 in
theorem snd1_in (n : Nat) (hn : 1 ≤ n) (l Bs n₀ len cap : Nat) (a : Option Addr) (xs : List Wn) (ho : WsOk xs) (hl : xs.length = len) (hreach : len ≤ 9223372036854775807) (hc : len ≤ cap) (N : Nat) (hN : N = len) (J Jx : List (Pl xs) → World → Prop)
    (hY : ∀ pre (x : Pl xs) W, J pre W → pre.length < len → YieldAt Fence.wide (n - 1) Tryz.prog l #[.int .i64 (x.1 : Int), win (xs.getD x.1 wn0).1 (xs.getD x.1 wn0).2.1 (xs.getD x.1 wn0).2.2] W fun e W' =>
      (e = .returned (.bool true) ∧ J (pre ++ [x]) W' ∧ KB n₀ Bs W W') ∨ (e = .returned (.bool false) ∧ Jx (pre ++ [x]) W'))
    (W : World) (hJ : AbidesFrom W.heap.size J) (hn₀ : n₀ ≤ W.heap.size) (hBl : Bs < W.heap.size) (hBs : W.cell? ⟨Bs, 0, none⟩ = some (.slice a len cap)) (hseg : ASeg W a xs) (hlow : 0 < len → ∀ b off, a = some ⟨b, off, none⟩ → b < n₀) (h0 : J [] W) :
    CallsIn Fence.wide n Tryz.prog 122 #[.func (.yield l) #[] #[], .pointer (some ⟨Bs, 0, none⟩)] W fun e W' => (∃ v, e = .returned v) ∧
      ((∃ ys : List (Pl xs), ys.map (·.1) = List.range N ∧ J ys W') ∨ (∃ pre : List (Pl xs), (∃ k, k ≤ N ∧ pre.map (·.1) = List.range k) ∧ Jx pre W')) := by
  have HW : Hid (Calls Tryz.prog 81 #[.slice a len cap] W fun e w' => e = .returned (.bool true) ∧ Below W.heap.size W w') := impl_wsok a cap len xs W hseg hl hreach hc ho
  have HL : Hid _ := hl
  have HS : Hid (ASeg W a xs) := hseg
  have HO : Hid (WsOk xs) := ho
  have HN' : Hid (N = len) := hN
  clear hl hseg ho hN
  refine callsIn_of_wp Tryz.func122 rfl trivial ?_ rfl
  simp only [Tryz.ntmps122, List.size_toArray, List.length_cons, List.length_nil, Nat.reduceAdd, Nat.reduceSub, Array.replicate_succ, Array.replicate_zero, List.push_toArray, List.append_toArray, List.nil_append, List.cons_append]
  have h4 : len ≤ 4 := by rw [← HL.out]; exact HO.out.1
  clear hreach hc
  gi_wp2_with (refine ⟨trivial, ?_⟩; gi_at_call 81; refine (callsIn_wide.2 HW.out).mono ?_; rintro e w' ⟨rfl, hb1⟩; have hBs' := (hb1.cell (p := ⟨Bs, 0, none⟩) hBl).trans hBs)
  have HJ1 : Hid (J [] w') := abide hJ h0 hb1
  have HK1 : Hid (KB n₀ Bs W w') := KB.of_below hb1 hn₀ hBl
  have hsz1 : W.heap.size ≤ w'.heap.size := hb1.size
  clear hb1 hBs' HW h0
  gi_loopw [10] (fun i wr => ∃ k : Nat, k ≤ len ∧ i = .int .i64 (k : Int) ∧ Hid ((∃ pre : List (Pl xs), pre.map (·.1) = List.range k ∧ J pre wr) ∧ KB n₀ Bs W wr ∧ W.heap.size ≤ wr.heap.size)) (fun i _ => len - (intOf i).toNat)
  case atStart => exact ⟨0, by omega, rfl, ⟨[], rfl, HJ1.out⟩, HK1.out, hsz1⟩
  case round =>
    obtain ⟨k, hk, rfl, HR⟩ := hrel
    by_cases hlt : k < len
    · have hlt' : (k : Int) < (len : Int) := by omega
      have hkl : k < xs.length := by rw [HL.out]; exact hlt
      obtain ⟨b1, o1, rfl, hbl1, p1⟩ := ASeg.at HS.out k hkl
      have hb1n : b1 < n₀ := hlow (by omega) b1 o1 rfl
      obtain ⟨x, HX⟩ : ∃ x, Hid (xs.getD k wn0 = x) := ⟨_, rfl⟩
      rw [HX.out] at p1
      replace p1 := p1.of (w' := wr) (fun i => HR.out.2.1.low.cell (p := ⟨b1, i, none⟩) hb1n)
      obtain ⟨⟨pre, hpre, hJp⟩, hKr, hszr⟩ := HR.out
      have HPR : Hid (pre.map (·.1) = List.range k) := hpre
      have hpl : pre.length = k := by have := congrArg List.length hpre; simpa using this
      have HPL : Hid _ := hpl
      have HJP : Hid (J pre wr ∧ KB n₀ Bs W wr ∧ W.heap.size ≤ wr.heap.size) := ⟨hJp, hKr, hszr⟩
      clear hpre hJp hKr hszr hpl
      have hal : Below wr.heap.size wr (wr.alloc (wrow 81 x.1 x.2.1 x.2.2)) := (Below.refl _ _).alloc (Nat.le_refl _) _
      have hKa : KB n₀ Bs W (wr.alloc (wrow 81 x.1 x.2.1 x.2.2)) := HJP.out.2.1.trans (KB.of_below hal (Nat.le_trans hn₀ HJP.out.2.2) (Nat.lt_of_lt_of_le hBl HJP.out.2.2))
      have hsza : W.heap.size ≤ (wr.alloc (wrow 81 x.1 x.2.1 x.2.2)).heap.size := Nat.le_trans HJP.out.2.2 hal.size
      obtain ⟨fn, tmps, assign, body, hy, hR⟩ := hY pre ⟨k, hkl, HO.out⟩ (wr.alloc (wrow 81 x.1 x.2.1 x.2.2)) (abide hJ HJP.out.1 hal) (by rw [HPL.out]; exact hlt)
      dsimp only at hy
      rw [HX.out] at hy
      have HU : Hid (List.map (fun x : Pl xs => x.1) (pre ++ [(⟨k, hkl, HO.out⟩ : Pl xs)]) = List.range (k + 1)) := by show _ = _; rw [List.range_succ, List.map_append, HPR.out]; rfl
      have hR2 := hR.mono (fun e W3 h => show (e = .returned (.bool true) ∧ Hid ((∃ pre : List (Pl xs), pre.map (·.1) = List.range (k + 1) ∧ J pre W3) ∧ KB n₀ Bs W W3 ∧ W.heap.size ≤ W3.heap.size)) ∨ (e = .returned (.bool false) ∧ Hid (∃ pre : List (Pl xs), pre.map (·.1) = List.range (k + 1) ∧ Jx pre W3)) from by
        rcases h with ⟨h1, h2, h3⟩ | ⟨h1, h2⟩
        · exact .inl ⟨h1, ⟨_, HU.out, h2⟩, hKa.trans h3, Nat.le_trans hsza h3.low.size⟩
        · exact .inr ⟨h1, ⟨_, HU.out, h2⟩⟩)
      clear hR hY HU hKa hsza hal hlow hBs HX HJP HR
      obtain ⟨x1, x2, x3⟩ := x
      obtain ⟨c0, c1, c2⟩ := p1
      simp only at c0 c1 c2 hy
      gi_wp2
      refine hR2.mono ?_
      rintro e W3 (⟨rfl, hJ3⟩ | ⟨rfl, hJx3⟩)
      · gi_wp2
        go_roundw
        case rel => exact ⟨k + 1, by omega, by go_num, hJ3⟩
        case measure => simp [intOf]; omega
      · gi_wp2
        refine bodyPost_ret (results_none rfl _ _ _) rfl ?_
        obtain ⟨pre', h1, h2⟩ := hJx3.out
        exact ⟨⟨_, rfl⟩, .inr ⟨pre', ⟨k + 1, by rw [HN'.out]; omega, h1⟩, h2⟩⟩
    · obtain rfl : k = len := by omega
      gi_wp2
      go_end0
      obtain ⟨⟨pre', h1, h2⟩, _⟩ := HR.out
      exact ⟨⟨_, rfl⟩, .inl ⟨pre', by rw [HN'.out]; exact h1, h2⟩⟩
/-- What the iterator hands over, whole or in part. -/
theorem snd_stops (n : Nat) (hn : 1 ≤ n) (Bs n₀ len cap : Nat) (a : Option Addr) (xs : List Wn) (ho : WsOk xs) (hl : xs.length = len) (hreach : len ≤ 9223372036854775807) (hc : len ≤ cap) (N : Nat) (hN : N = len) (w : World) (hn₀ : n₀ ≤ w.heap.size) (hBn : Bs < w.heap.size)
    (hcc : w.cell? ⟨Bs, 0, none⟩ = some (.slice a len cap)) (hI : ASeg w a xs) (hlow : 0 < len → ∀ b off, a = some ⟨b, off, none⟩ → b < n₀) :
    SeqStopsK Fence.wide n Tryz.prog 122 #[.pointer (some ⟨Bs, 0, none⟩)] (fun x : Pl xs => #[Value.int .i64 (x.1 : Int), win (xs.getD x.1 wn0).1 (xs.getD x.1 wn0).2.1 (xs.getD x.1 wn0).2.2]) (KB n₀ Bs) (fun ys => ys.map (·.1) = List.range N) (fun pre => ∃ k, k ≤ N ∧ pre.map (·.1) = List.range k) len w := fun l J Jx W hW hJ hJx hY h0 =>
  snd1_in n hn l Bs n₀ len cap a xs ho hl hreach hc N hN J Jx hY W hJ (Nat.le_trans hn₀ hW.size) (Nat.lt_of_lt_of_le hBn hW.size) ((hW.cell (p := ⟨Bs, 0, none⟩) hBn).trans hcc) (hI.below hW) hlow h0
theorem Bk.own {A B : World} {b : Nat} {cs : Array Value} {row : Option Nat} (h : Bk A b cs) (h0 : 0 < cs.size) (hg : A.grownBy B row) (hr : ∀ r, row = some r → ∃ o : Obj, A.heap[r]? = some o ∧ o.isCells = false) : Bk B b cs := by
  have hne : some b ≠ row := fun e => by
    obtain ⟨o, ho, hc⟩ := hr b e.symm
    have := h.cell 0 _ (Array.getElem?_eq_getElem h0)
    cases o <;> simp_all [World.cell?, Obj.isCells]
  have hk := hg.block b h.lt hne
  exact ⟨Nat.lt_of_lt_of_le h.lt hg.size, fun i v e => (World.cell?_of_block (a := ⟨b, i, none⟩) hk).trans (h.cell i v e), fun i => (World.frozen?_of_block (a := ⟨b, i, none⟩) hk).trans (h.free i)⟩
theorem ASeg.low {w : World} {a : Option Addr} {xs : List Wn} {len : Nat} (h : ASeg w a xs) (hl : xs.length = len) (h0 : 0 < len) (b off : Nat) (e : a = some ⟨b, off, none⟩) : b < w.heap.size := by
  obtain ⟨b', off', e', hlt, _⟩ := h (by omega)
  rw [e'] at e
  cases e
  exact hlt
end Go.Proofs.YtdmlgnmklnaehaaGreatDoor
namespace Go.Proofs.YtdmlgnmklnaehaaGreatDoor
open Go.ChangeShapes Go.WideShapes Go.ChangeAt Go.RowKit Go.Deep Go.Shelf
set_option linter.unusedVariables false
attribute [local go_sem] Oper.semAt_some

/-- 'r' is the first place below 'N' whose window has the address, or -1. -/
def AtP (xs : List Wn) (N : Nat) (ad r : Int) : Prop :=
  (r = -1 ∧ ∀ i, i < N → ¬ Has (xs.getD i wn0) ad) ∨ ∃ k : Nat, k < N ∧ r = (k : Int) ∧ Has (xs.getD k wn0) ad ∧ ∀ i, i < k → ¬ Has (xs.getD i wn0) ad
theorem AtP.uniq {xs : List Wn} {N : Nat} {ad r r' : Int} (h : AtP xs N ad r) (g : AtP xs N ad r') : r = r' := by
  rcases h with ⟨h1, h2⟩ | ⟨k, h1, h2, h3, h4⟩ <;> rcases g with ⟨g1, g2⟩ | ⟨j, g1, g2, g3, g4⟩
  · omega
  · exact absurd g3 (h2 j g1)
  · exact absurd h3 (g2 k h1)
  · rcases Nat.lt_trichotomy k j with e | e | e
    · exact absurd h3 (g4 k e)
    · subst e; omega
    · exact absurd g3 (h4 j e)
theorem AtP.ex (xs : List Wn) (ad : Int) : ∀ N, ∃ r, AtP xs N ad r
  | 0 => ⟨-1, .inl ⟨rfl, fun i hi => absurd hi (by omega)⟩⟩
  | N + 1 => by
    obtain ⟨r, hr⟩ := AtP.ex xs ad N
    rcases hr with ⟨h1, h2⟩ | ⟨k, h1, h2, h3, h4⟩
    · by_cases h : Has (xs.getD N wn0) ad
      · exact ⟨N, .inr ⟨N, by omega, rfl, h, h2⟩⟩
      · refine ⟨-1, .inl ⟨rfl, fun i hi => ?_⟩⟩
        by_cases e : i = N
        · subst e; exact h
        · exact h2 i (by omega)
    · exact ⟨r, .inr ⟨k, by omega, h2, h3, h4⟩⟩
theorem WsOk.at {xs : List Wn} (h : WsOk xs) {k : Nat} (hk : k < xs.length) : WOk (xs.getD k wn0) := (h.2 k hk).1
theorem list_last {α : Type} {f : α → Nat} {pre : List α} {x : α} {k : Nat} (h : (pre ++ [x]).map f = List.range k) : f x + 1 = k ∧ pre.map f = List.range (f x) := by
  have hl := congrArg List.length h
  simp only [List.length_map, List.length_append, List.length_cons, List.length_nil, List.length_range] at hl
  obtain ⟨m, rfl⟩ : ∃ m, k = m + 1 := ⟨k - 1, by omega⟩
  rw [List.range_succ, List.map_append] at h
  have := List.append_inj h (by simp; omega)
  simp at this
  exact ⟨by rw [this.2], by rw [this.2]; exact this.1⟩
theorem mem_range_map {α : Type} {f : α → Nat} {pre : List α} {k : Nat} (h : pre.map f = List.range k) {i : Nat} (hi : i < k) : ∃ y ∈ pre, f y = i := by
  have : i ∈ pre.map f := by rw [h]; exact List.mem_range.2 hi
  exact List.mem_map.1 this
set_option maxRecDepth 100000 in
set_option maxHeartbeats 4000000 in
theorem impl_at (a : Option Addr) (cap n : Nat) (xs : List Wn) (ad r : Int) (N : Nat) (w : World) (hs : ASeg w a xs) (hl : xs.length = n) (hn : n ≤ 9223372036854775807) (hc : n ≤ cap) (ho : WsOk xs) (hN : N = n) (hr : AtP xs N ad r) :
    Calls Tryz.prog 39 #[.slice a n cap, .int .i64 ad] w fun e w' => e = .returned (.int .i64 r) ∧ Below w.heap.size w w' := by
  have hlow := fun h0 b off e => ASeg.low hs hl h0 b off e
  refine (callsIn_wide (n := 6)).1 ?_
  refine callsIn_of_wp_marks Tryz.func39 rfl trivial ?_ rfl
  simp only [Tryz.ntmps39, List.size_toArray, List.length_cons, List.length_nil, Nat.reduceAdd, Nat.reduceSub, Array.replicate_succ, Array.replicate_zero, List.push_toArray, List.append_toArray, List.nil_append, List.cons_append]
  gi_wp2_with (refine ⟨trivial, ?_⟩; gi_at_call 82; refine (snd_in _ _ _ _ _).mono ?_; rintro e w' ⟨rfl, rfl⟩)
  have hal1 : Below w.heap.size w (w.alloc (.cells #[.int .i64 ad] 3)) := (Below.refl _ _).alloc (Nat.le_refl _) _
  have hal2 := hal1.alloc hal1.size (.cells #[.int .i64 0] 3)
  have hal3 := hal2.alloc hal2.size (.cells #[.slice a n cap] 76)
  have bA := ((Bk.new w #[.int .i64 ad] 3 w.heap.size rfl).alloc (.cells #[.int .i64 0] 3)).alloc (.cells #[.slice a n cap] 76)
  have bR := (Bk.new (w.alloc (.cells #[.int .i64 ad] 3)) #[.int .i64 0] 3 (w.heap.size + 1) (by simp)).alloc (.cells #[.slice a n cap] 76)
  have bS := Bk.new ((w.alloc (.cells #[.int .i64 ad] 3)).alloc (.cells #[.int .i64 0] 3)) #[.slice a n cap] 76 (w.heap.size + 1 + 1) (by simp)
  have hseg := hs.below hal3
  obtain ⟨W0, hW0⟩ : ∃ W0, ((w.alloc (.cells #[.int .i64 ad] 3)).alloc (.cells #[.int .i64 0] 3)).alloc (.cells #[.slice a n cap] 76) = W0 := ⟨_, rfl⟩
  rw [hW0] at bA bR bS hseg hal3 ⊢
  have hsz : W0.heap.size = w.heap.size + 3 := by rw [← hW0]; simp
  clear hW0 hal1 hal2 hs
  refine wpIn_rangeFunc_ownH (Kp := KB w.heap.size (w.heap.size + 1 + 1)) rfl (by omega) (gf := 122) (lb := #[.pointer (some ⟨w.heap.size + 1 + 1, 0, none⟩)]) rfl trivial (enters_of Tryz.func122 (by kernel_rfl) rfl)
    (snd_stops (6 - 1) (by omega) (w.heap.size + 1 + 1) w.heap.size n cap a xs ho hl hn hc N hN W0 (by omega) (by omega) (bS.cell 0 _ rfl) hseg hlow) (fun h g => h.trans g)
    (fun W l o o' hl ho h1 h2 => ⟨belowK_b (w := W0) (by omega) W l o o' hl ho h1 h2, by
      have hne : w.heap.size + 1 + 1 ≠ l := by omega
      simp [World.putObj, Ne.symm hne]⟩) (Below.refl _ _) (fun _ => rfl)
    (fun pre W => (Bk W w.heap.size #[.int .i64 ad] ∧ Bk W (w.heap.size + 1) #[.int .i64 0] ∧ Below w.heap.size w W ∧ W0.heap.size ≤ W.heap.size) ∧ ∀ y ∈ pre, ¬ Has (xs.getD y.1 wn0) ad)
    (fun c pre W => c = .ret ∧ ∃ pre' x, pre = pre' ++ [x] ∧ Has (xs.getD x.1 wn0) ad ∧ (∀ y ∈ pre', ¬ Has (xs.getD y.1 wn0) ad) ∧ Bk W (w.heap.size + 1) #[.int .i64 (x.1 : Int)] ∧ Below w.heap.size w W)
    (fun s A B row hs hg hr => by
      obtain ⟨⟨h1, h2, h3, h4⟩, h5⟩ := hs
      have hr' := fun r e => (hr r e).2
      exact ⟨⟨h1.own (by simp) hg hr', h2.own (by simp) hg hr', Below.grown h3 hg h3.size (fun k e => by have := (hr k e).1; omega), Nat.le_trans h4 hg.size⟩, h5⟩)
    (fun c s A B row hs hg hr => by
      obtain ⟨h0, pre', x, h1, h2, h3, h4, h5⟩ := hs
      have hr' := fun r e => (hr r e).2
      exact ⟨h0, pre', x, h1, h2, h3, h4.own (by simp) hg hr', Below.grown h5 hg h5.size (fun k e => by have := (hr k e).1; omega)⟩)
    ⟨⟨bA, bR, hal3, Nat.le_refl _⟩, by simp⟩
    (fun x a' W => ∃ Bx, w.heap.size + 1 + 1 < Bx ∧ Bk W Bx #[.int .i64 (xs.getD x.1 wn0).1, .int .i64 (xs.getD x.1 wn0).2.1, .int .i64 (xs.getD x.1 wn0).2.2] ∧ a' = { tmps := #[.slice a n cap, .int .i64 ad, undef, .pointer (some ⟨w.heap.size, 0, none⟩), .pointer (some ⟨w.heap.size + 1, 0, none⟩), .int .i64 (x.1 : Int), .pointer (some ⟨Bx, 0, none⟩), .slice a n cap, .func (.func 122) #[] #[.pointer (some ⟨w.heap.size + 1 + 1, 0, none⟩)], .int .i64 (x.1 : Int), win (xs.getD x.1 wn0).1 (xs.getD x.1 wn0).2.1 (xs.getD x.1 wn0).2.2, undef, undef, undef, undef], defers := [] })
    (fun x a' _ A B row hs hg hr => by
      obtain ⟨Bx, h1, h2, h3⟩ := hs
      exact ⟨Bx, h1, h2.own (by simp) hg (fun r e => (hr r e).2), h3⟩)
    ?assign ?body ?done ?stop
  case assign =>
    rintro l pre x W K ⟨⟨h1, h2, h3, h4⟩, h5⟩ hK
    generalize xs.getD x.1 wn0 = z at hK ⊢
    have hal : Below W.heap.size W (W.alloc (.cells #[.int .i64 z.1, .int .i64 z.2.1, .int .i64 z.2.2] 81)) := (Below.refl _ _).alloc (Nat.le_refl _) _
    gi_wp2
    exact hK _ _ ((KeepsOthers.alloc _ _).from _) ⟨hal.mono h3.size, hal.block _ (by omega)⟩ ⟨⟨h1.below hal, h2.below hal, h3.trans (hal.mono h3.size), Nat.le_trans h4 hal.size⟩, h5⟩ ⟨W.heap.size, by omega, Bk.new W _ 81 _ rfl, rfl⟩
  case body =>
    rintro l pre x a' W hl hr2 ⟨⟨h1, h2, h3, h4⟩, h5⟩ ⟨Bx, hBx, bX, rfl⟩ hlt
    have hfit := (WsOk.at x.2.2 x.2.1).fit
    obtain ⟨qh, hqh⟩ := told (Has (xs.getD x.1 wn0) ad)
    have HQH : Hid _ := hqh
    have HH : Hid (∀ X, Calls Tryz.prog 83 #[win (xs.getD x.1 wn0).1 (xs.getD x.1 wn0).2.1 (xs.getD x.1 wn0).2.2, .int .i64 ad] X fun e w' => e = .returned (.bool qh) ∧ Below X.heap.size X w') := fun X => impl_has _ _ _ ad qh X hfit hqh
    clear hqh hfit
    have HHX : Hid (Has (xs.getD x.1 wn0) ad → Has (xs.getD x.1 wn0) ad) := fun h => h
    generalize xs.getD x.1 wn0 = z at bX HH ⊢
    obtain ⟨z1, z2, z3⟩ := z
    simp only at bX HH ⊢
    have x0 := bX.cell 0 _ rfl
    have x1 := bX.cell 1 _ rfl
    have x2 := bX.cell 2 _ rfl
    have a0 := h1.cell 0 _ rfl
    have hXB := bX.lt
    cases qh
    · have HNO : Hid (∀ y ∈ pre ++ [x], ¬ Has (xs.getD y.1 wn0) ad) := fun y hy hh => by
        rcases List.mem_append.1 hy with g | g
        · exact h5 y g hh
        · rw [List.mem_singleton.1 g] at hh
          have := HQH.out.2 hh
          cases this
      clear h5
      gi_wp2_with (refine ⟨trivial, ?_⟩; gi_at_call 83; refine (CallsIn.inRound l (callsIn_wide.2 (HH.out _))).mono ?_; rintro e w' ⟨rfl, hb6⟩)
      exact ⟨KeepsOthers.from (KeepsOthers.of_grownBy (row := none) ⟨hb6.os, hb6.tape, hb6.output, hb6.size, fun k hk _ => hb6.block k hk⟩ (by simp)) _, ⟨hb6.mono h3.size, hb6.block _ (by omega)⟩, ⟨h1.below hb6, h2.below hb6, h3.trans (hb6.mono h3.size), Nat.le_trans h4 hb6.size⟩, HNO.out⟩
    · have hx : Has (xs.getD x.1 wn0) ad := HQH.out.1 rfl
      have HX : Hid _ := And.intro hx h5
      clear hx h5
      gi_wp2_with (refine ⟨trivial, ?_⟩; gi_at_call 83; refine (CallsIn.inRound l (callsIn_wide.2 (HH.out _))).mono ?_; rintro e w' ⟨rfl, hb6⟩; have r0 := (h2.below hb6).cell 0 _ rfl; have rf := (h2.below hb6).free)
      have hb7 : Below w.heap.size w (w'.setCell ⟨w.heap.size + 1, 0, none⟩ (.int .i64 (x.1 : Int))) := (h3.trans (hb6.mono h3.size)).setCell (p := ⟨w.heap.size + 1, 0, none⟩) (by simp) _
      refine ⟨(KeepsOthers.from (KeepsOthers.of_grownBy (row := none) ⟨hb6.os, hb6.tape, hb6.output, hb6.size, fun k hk _ => hb6.block k hk⟩ (by simp)) _).trans ((KeepsOthers.setCell _ _ _).from _), rfl, pre, x, rfl, HX.out.1, HX.out.2, (h2.below hb6).set 0 (.int .i64 (x.1 : Int)) (by simp) rfl, hb7⟩
  case done =>
    rintro D ys W hD hys ⟨⟨h1, h2, h3, h4⟩, h5⟩ hK
    have HT : Hid (r = -1) := AtP.uniq hr (.inl ⟨rfl, fun i hi => by
      obtain ⟨y, hy, e⟩ := mem_range_map hys hi
      have := h5 y hy
      rw [e] at this
      exact this⟩)
    have m0 := h2.cell 0 _ rfl
    have f0 := h2.free
    have h2' := h2.set 0 (.int .i64 (-1)) (by simp) rfl
    have hK' : (W.setCell ⟨w.heap.size + 1, 0, none⟩ (.int .i64 (-1))).heap[D]? = some (.deferred (some [])) := (KeepsOthers.setCell _ _ _).same D _ hK rfl
    have hg := grownBy_putObj' (W.setCell ⟨w.heap.size + 1, 0, none⟩ (.int .i64 (-1))) D (.deferred none)
    have hrow : ∀ r, some D = some r → ∃ o : Obj, (W.setCell ⟨w.heap.size + 1, 0, none⟩ (.int .i64 (-1))).heap[r]? = some o ∧ o.isCells = false := fun r e => by cases e; exact ⟨_, hK', rfl⟩
    have n0 := (h2'.own (by simp) hg hrow).cell 0 _ rfl
    have hb5 : Below w.heap.size w (W.setCell ⟨w.heap.size + 1, 0, none⟩ (.int .i64 (-1))) := h3.setCell (p := ⟨w.heap.size + 1, 0, none⟩) (by simp) _
    have HZ : Hid _ := Below.grown hb5 hg hb5.size (fun k e => by cases e; omega)
    clear hr h5 hys
    gi_wp2
    refine ⟨by simp, .inl ⟨_, _, rfl, run_takeDeferred hK', ?_⟩⟩
    exact ⟨.int .i64 (-1), by simp [results, Tryz.results39, go_sem, n0], ret_int HT.out.symm, HZ.out⟩
  case stop =>
    rintro D c pre W hD ⟨k, hk, hpre⟩ ⟨rfl, pre', x, rfl, h2, h3, h4, h5⟩ hK
    obtain ⟨e1, e2⟩ := list_last hpre
    have HT : Hid (r = (x.1 : Int)) := AtP.uniq hr (.inr ⟨x.1, by omega, rfl, h2, fun i hi => by
      obtain ⟨y, hy, e⟩ := mem_range_map e2 hi
      have := h3 y hy
      rw [e] at this
      exact this⟩)
    have hg := grownBy_putObj' W D (.deferred none)
    have hrow : ∀ r, some D = some r → ∃ o : Obj, W.heap[r]? = some o ∧ o.isCells = false := fun r e => by cases e; exact ⟨_, hK, rfl⟩
    have n0 := (h4.own (by simp) hg hrow).cell 0 _ rfl
    have HZ : Hid _ := Below.grown h5 hg h5.size (fun k e => by cases e; omega)
    clear hr h3 hpre e2
    gi_wp2
    refine ⟨by simp, .inl ⟨_, _, rfl, run_takeDeferred hK, ?_⟩⟩
    exact ⟨.int .i64 (x.1 : Int), by simp [results, Tryz.results39, go_sem, n0], ret_int HT.out.symm, HZ.out⟩
end Go.Proofs.YtdmlgnmklnaehaaGreatDoor
namespace Go.Proofs.YtdmlgnmklnaehaaGreatDoor
open Go.ChangeShapes Go.WideShapes Go.ChangeAt Go.RowKit Go.Deep
set_option linter.unusedVariables false

set_option maxHeartbeats 2000000 in
theorem spec_l07at (a : Option Addr) (cap n : Nat) (xs : List Wn) (ad r : Int) (w : World) (hs : ASeg w a xs) (hl : xs.length = n) (ho : WsOk xs) (hr : AtP xs n ad r) :
    Calls Tryz.prog 28 #[.slice a n cap, .int .i64 ad] w fun e w' => e = .returned (.int .i64 r) ∧ Below w.heap.size w w' := by
  have HR : Hid _ := hr
  have HS : Hid (ASeg w a xs) := hs
  have HL : Hid _ := hl
  have HO : Hid _ := ho
  have h4 : n ≤ 4 := by rw [← hl]; exact ho.1
  clear hr hs hl ho
  go_enter Tryz.func28, Tryz.ntmps28
  go_wp2
  go_loopw [5] (fun i wr => ∃ m : Nat, m ≤ n ∧ i = .int .i64 m ∧ Hid (Below w.heap.size w wr ∧ ∀ i, i < m → ¬ Has (xs.getD i wn0) ad)) (fun i _ => n - (intOf i).toNat)
  case atStart => exact ⟨0, by omega, rfl, Below.refl _ _, fun i hi => absurd hi (by omega)⟩
  case round =>
    obtain ⟨m, hm, rfl, HJ⟩ := hrel
    by_cases hmn : m < n
    rotate_left
    · obtain rfl : m = n := by omega
      have HT : Hid (r = -1) := AtP.uniq HR.out (.inl ⟨rfl, HJ.out.2⟩)
      go_wp2
      go_ret
      exact ⟨ret_int HT.out.symm, HJ.out.1⟩
    have hmn' : (m : Int) < (n : Int) := by omega
    have hml : m < xs.length := by rw [HL.out]; exact hmn
    obtain ⟨b1, o1, rfl, hbl1, p1⟩ := ASeg.at HS.out m hml
    replace p1 := p1.of (w' := wr) (fun i => HJ.out.1.cell (p := ⟨b1, i, none⟩) hbl1)
    have hfit := (WsOk.at HO.out hml).fit
    obtain ⟨qh, hqh⟩ := told (Has (xs.getD m wn0) ad)
    have HQH : Hid _ := hqh
    have HH : Hid (∀ X, Calls Tryz.prog 76 #[win (xs.getD m wn0).1 (xs.getD m wn0).2.1 (xs.getD m wn0).2.2, .int .i64 ad] X fun e w' => e = .returned (.bool qh) ∧ Below X.heap.size X w') := fun X => spec_has _ _ _ ad qh X hfit hqh
    have HN : Hid (qh = false → ∀ i, i < m + 1 → ¬ Has (xs.getD i wn0) ad) := fun h i hi hh => by
      by_cases e : i = m
      · subst e
        rw [HQH.out.2 hh] at h
        cases h
      · exact HJ.out.2 i (by omega) hh
    have HY : Hid (qh = true → r = (m : Int)) := fun h => AtP.uniq HR.out (.inr ⟨m, hmn, rfl, HQH.out.1 h, HJ.out.2⟩)
    clear hqh hfit hbl1 hml HQH
    obtain ⟨c0, c1, c2⟩ := p1
    generalize xs.getD m wn0 = z at c0 c1 c2 HH
    obtain ⟨z1, z2, z3⟩ := z
    simp only at c0 c1 c2 HH
    go_wp2_with fail
    refine (HH.out _).mono ?_
    rintro u w2 ⟨rfl, hb2⟩
    have HB : Hid (Below w.heap.size w w2) := HJ.out.1.trans (hb2.mono HJ.out.1.size)
    clear hb2 c0 c1 c2
    cases qh
    · go_wp2
      go_roundw
      case rel => exact ⟨m + 1, by omega, by go_num, HB.out, HN.out (by trivial)⟩
      case measure => simp [intOf]; omega
    · have HT : Hid (r = (m : Int)) := HY.out (by trivial)
      go_wp2
      go_ret
      exact ⟨ret_int HT.out.symm, HB.out⟩
end Go.Proofs.YtdmlgnmklnaehaaGreatDoor
