
/-
  The program's own iterator over a list of windows: what it hands to a loop, for every loop body that keeps what lay below a block. Conditions: the sizes are numbers of 64 bits; the slice's capacity is at least its length.
-/
import Derived.Test.YtanffdedignegaaBas
import Derived.Test.YtanffdedignegaaProg
import Derived.Test.YtanffdedignegaaWsi
import Derived.RangeFuncBox
import Derived.RangeFuncLeaves
import Derived.RangeFuncNested
import Derived.RangeFuncBound
import Derived.RangeFuncCalls
import Derived.Shelf.Abstract
import Derived.Shelf.RegionOpen
import Derived.OwnWalkIn
import Derived.TacticsInMore
import Derived.LoopNIn
import Derived.LoopIn
namespace Go.Proofs.Ytanffdedignegaa
open Go.ChangeShapes Go.WideShapes Go.ChangeAt Go.RowKit Go.Deep Go.Shelf
set_option linter.unusedVariables false
attribute [local go_sem] Oper.semAt_some

/-- What lay below 'n₀', and the block 'Bs', lie as they lay. -/
structure KB (n₀ Bs : Nat) (W W' : World) : Prop where
  low : Below n₀ W W'
  box : W'.heap[Bs]? = W.heap[Bs]?
theorem KB.refl (n₀ Bs : Nat) (W : World) : KB n₀ Bs W W := ⟨Below.refl _ _, rfl⟩
theorem KB.trans {n₀ Bs : Nat} {A B C : World} (h : KB n₀ Bs A B) (g : KB n₀ Bs B C) : KB n₀ Bs A C := ⟨h.low.trans g.low, g.box.trans h.box⟩
theorem KB.of_below {n₀ Bs : Nat} {A B : World} (h : Below A.heap.size A B) (h1 : n₀ ≤ A.heap.size) (h2 : Bs < A.heap.size) : KB n₀ Bs A B := ⟨h.mono h1, h.block Bs h2⟩
/-- A place of a right list. -/
abbrev Pl (xs : List Wn) := { k : Nat // k < xs.length ∧ WsOk xs }
theorem abide {xs : List Wn} {J : List (Pl xs) → World → Prop} {B : Nat} (hJ : AbidesFrom B J) {s : List (Pl xs)} {X X' : World} (h : J s X) (hb : Below X.heap.size X X') : J s X' :=
  hJ s X X' none h ⟨hb.os, hb.tape, hb.output, hb.size, fun k hk _ => hb.block k hk⟩ (by simp)
theorem snd_in (n : Nat) (a : Option Addr) (len cap : Nat) (w : World) :
    CallsIn Fence.wide n Try.prog 44 #[.slice a len cap] w fun e w' => e = .returned (.func (.func 60) #[] #[.pointer (some ⟨w.heap.size, 0, none⟩)]) ∧ w' = w.alloc (.cells #[.slice a len cap] 24) := by
  refine callsIn_of_wp Try.func44 rfl trivial ?_ rfl
  simp only [Try.ntmps44, List.size_toArray, List.length_cons, List.length_nil, Nat.reduceAdd, Nat.reduceSub, Array.replicate_succ, Array.replicate_zero, List.push_toArray, List.append_toArray, List.nil_append, List.cons_append]
  gi_wp2
  go_ret
  exact ⟨rfl, rfl⟩
set_option maxRecDepth 100000 in
set_option maxHeartbeats 4000000 in
theorem snd1_in (n : Nat) (hn : 1 ≤ n) (l Bs n₀ len cap : Nat) (a : Option Addr) (xs : List Wn) (q : Bool) (hq : q = true ↔ WsOk xs) (hf : Fit xs) (hl : xs.length = len) (hreach : len ≤ 9223372036854775807) (hc : len ≤ cap) (N : Nat) (hN0 : q = false → N = 0) (hN1 : q = true → N = len) (J Jx : List (Pl xs) → World → Prop)
    (hY : ∀ pre (x : Pl xs) W, J pre W → pre.length < len → YieldAt Fence.wide (n - 1) Try.prog l #[.int .i64 (x.1 : Int), win (xs.getD x.1 wn0).1 (xs.getD x.1 wn0).2.1 (xs.getD x.1 wn0).2.2] W fun e W' =>
      (e = .returned (.bool true) ∧ J (pre ++ [x]) W' ∧ KB n₀ Bs W W') ∨ (e = .returned (.bool false) ∧ Jx (pre ++ [x]) W'))
    (W : World) (hJ : AbidesFrom W.heap.size J) (hn₀ : n₀ ≤ W.heap.size) (hBl : Bs < W.heap.size) (hBs : W.cell? ⟨Bs, 0, none⟩ = some (.slice a len cap)) (hseg : ASeg W a xs) (hlow : 0 < len → ∀ b off, a = some ⟨b, off, none⟩ → b < n₀) (h0 : J [] W) :
    CallsIn Fence.wide n Try.prog 60 #[.func (.yield l) #[] #[], .pointer (some ⟨Bs, 0, none⟩)] W fun e W' => (∃ v, e = .returned v) ∧
      ((∃ ys : List (Pl xs), ys.map (·.1) = List.range N ∧ J ys W') ∨ (∃ pre : List (Pl xs), (∃ k, k ≤ N ∧ pre.map (·.1) = List.range k) ∧ Jx pre W')) := by
  have HW : Hid (Calls Try.prog 24 #[.slice a len cap] W fun e w' => e = .returned (.bool q) ∧ Below W.heap.size W w') := impl_wsok a cap len xs q W hseg hf hl hreach hc hq
  have HQ : Hid _ := hq
  have HL : Hid _ := hl
  have HS : Hid (ASeg W a xs) := hseg
  clear hf hq hl hseg
  have HN : Hid _ := And.intro hN0 hN1
  clear hN0 hN1
  refine callsIn_of_wp Try.func60 rfl trivial ?_ rfl
  simp only [Try.ntmps60, List.size_toArray, List.length_cons, List.length_nil, Nat.reduceAdd, Nat.reduceSub, Array.replicate_succ, Array.replicate_zero, List.push_toArray, List.append_toArray, List.nil_append, List.cons_append]
  cases q
  · have HN' : Hid (N = 0) := HN.out.1 rfl
    gi_wp2_with (refine ⟨trivial, ?_⟩; gi_at_call 24; refine (callsIn_wide.2 HW.out).mono ?_; rintro e w' ⟨rfl, hb1⟩)
    refine bodyPost_ret (results_none rfl _ _ _) rfl ?_
    exact ⟨⟨_, rfl⟩, .inl ⟨[], by rw [HN'.out]; rfl, abide hJ h0 hb1⟩⟩
  have HN' : Hid (N = len) := HN.out.2 rfl
  have HO : Hid (WsOk xs) := HQ.out.1 rfl
  have h4 : len ≤ 4 := by rw [← HL.out]; exact HO.out.1
  clear HQ HN hreach hc
  gi_wp2_with (refine ⟨trivial, ?_⟩; gi_at_call 24; refine (callsIn_wide.2 HW.out).mono ?_; rintro e w' ⟨rfl, hb1⟩; have hBs' := (hb1.cell (p := ⟨Bs, 0, none⟩) hBl).trans hBs)
  have HJ1 : Hid (J [] w') := abide hJ h0 hb1
  have HK1 : Hid (KB n₀ Bs W w') := KB.of_below hb1 hn₀ hBl
  have hsz1 : W.heap.size ≤ w'.heap.size := hb1.size
  clear hb1 hBs' HW h0
  gi_loopw [10] (fun i wr => ∃ k : Nat, k ≤ len ∧ i = .int .i64 (k : Int) ∧ Hid ((∃ pre : List (Pl xs), pre.map (·.1) = List.range k ∧ J pre wr) ∧ KB n₀ Bs W wr ∧ W.heap.size ≤ wr.heap.size)) (fun i _ => len - (intOf i).toNat)
  case atStart => exact ⟨0, by omega, rfl, ⟨[], rfl, HJ1.out⟩, HK1.out, hsz1⟩
  case round =>
    obtain ⟨k, hk, rfl, HR⟩ := hrel
    by_cases hlt : k < len
    · have hlt' : (k : Int) < (len : Int) := by omega
      have hkl : k < xs.length := by rw [HL.out]; exact hlt
      obtain ⟨b1, o1, rfl, hbl1, p1⟩ := ASeg.at HS.out k hkl
      have hb1n : b1 < n₀ := hlow (by omega) b1 o1 rfl
      obtain ⟨x, HX⟩ : ∃ x, Hid (xs.getD k wn0 = x) := ⟨_, rfl⟩
      rw [HX.out] at p1
      replace p1 := p1.of (w' := wr) (fun i => HR.out.2.1.low.cell (p := ⟨b1, i, none⟩) hb1n)
      obtain ⟨⟨pre, hpre, hJp⟩, hKr, hszr⟩ := HR.out
      have HPR : Hid (pre.map (·.1) = List.range k) := hpre
      have hpl : pre.length = k := by have := congrArg List.length hpre; simpa using this
      have HPL : Hid _ := hpl
      have HJP : Hid (J pre wr ∧ KB n₀ Bs W wr ∧ W.heap.size ≤ wr.heap.size) := ⟨hJp, hKr, hszr⟩
      clear hpre hJp hKr hszr hpl
      have hal : Below wr.heap.size wr (wr.alloc (wrow 40 x.1 x.2.1 x.2.2)) := (Below.refl _ _).alloc (Nat.le_refl _) _
      have hKa : KB n₀ Bs W (wr.alloc (wrow 40 x.1 x.2.1 x.2.2)) := HJP.out.2.1.trans (KB.of_below hal (Nat.le_trans hn₀ HJP.out.2.2) (Nat.lt_of_lt_of_le hBl HJP.out.2.2))
      have hsza : W.heap.size ≤ (wr.alloc (wrow 40 x.1 x.2.1 x.2.2)).heap.size := Nat.le_trans HJP.out.2.2 hal.size
      obtain ⟨fn, tmps, assign, body, hy, hR⟩ := hY pre ⟨k, hkl, HO.out⟩ (wr.alloc (wrow 40 x.1 x.2.1 x.2.2)) (abide hJ HJP.out.1 hal) (by rw [HPL.out]; exact hlt)
      dsimp only at hy
      rw [HX.out] at hy
      have HU : Hid (List.map (fun x : Pl xs => x.1) (pre ++ [(⟨k, hkl, HO.out⟩ : Pl xs)]) = List.range (k + 1)) := by show _ = _; rw [List.range_succ, List.map_append, HPR.out]; rfl
      have hR2 := hR.mono (fun e W3 h => show (e = .returned (.bool true) ∧ Hid ((∃ pre : List (Pl xs), pre.map (·.1) = List.range (k + 1) ∧ J pre W3) ∧ KB n₀ Bs W W3 ∧ W.heap.size ≤ W3.heap.size)) ∨ (e = .returned (.bool false) ∧ Hid (∃ pre : List (Pl xs), pre.map (·.1) = List.range (k + 1) ∧ Jx pre W3)) from by
        rcases h with ⟨h1, h2, h3⟩ | ⟨h1, h2⟩
        · exact .inl ⟨h1, ⟨_, HU.out, h2⟩, hKa.trans h3, Nat.le_trans hsza h3.low.size⟩
        · exact .inr ⟨h1, ⟨_, HU.out, h2⟩⟩)
      clear hR hY HU hKa hsza hal hlow hBs HX HJP HR
      obtain ⟨x1, x2, x3⟩ := x
      obtain ⟨c0, c1, c2⟩ := p1
      simp only at c0 c1 c2 hy
      gi_wp2
      refine hR2.mono ?_
      rintro e W3 (⟨rfl, hJ3⟩ | ⟨rfl, hJx3⟩)
      · gi_wp2
        go_roundw
        case rel => exact ⟨k + 1, by omega, by go_num, hJ3⟩
        case measure => simp [intOf]; omega
      · gi_wp2
        refine bodyPost_ret (results_none rfl _ _ _) rfl ?_
        obtain ⟨pre', h1, h2⟩ := hJx3.out
        exact ⟨⟨_, rfl⟩, .inr ⟨pre', ⟨k + 1, by rw [HN'.out]; omega, h1⟩, h2⟩⟩
    · obtain rfl : k = len := by omega
      gi_wp2
      go_end0
      obtain ⟨⟨pre', h1, h2⟩, _⟩ := HR.out
      exact ⟨⟨_, rfl⟩, .inl ⟨pre', by rw [HN'.out]; exact h1, h2⟩⟩
/-- What the iterator hands over, whole or in part. -/
theorem snd_stops (n : Nat) (hn : 1 ≤ n) (Bs n₀ len cap : Nat) (a : Option Addr) (xs : List Wn) (q : Bool) (hq : q = true ↔ WsOk xs) (hf : Fit xs) (hl : xs.length = len) (hreach : len ≤ 9223372036854775807) (hc : len ≤ cap) (N : Nat) (hN0 : q = false → N = 0) (hN1 : q = true → N = len) (w : World) (hn₀ : n₀ ≤ w.heap.size) (hBn : Bs < w.heap.size)
    (hcc : w.cell? ⟨Bs, 0, none⟩ = some (.slice a len cap)) (hI : ASeg w a xs) (hlow : 0 < len → ∀ b off, a = some ⟨b, off, none⟩ → b < n₀) :
    SeqStopsK Fence.wide n Try.prog 60 #[.pointer (some ⟨Bs, 0, none⟩)] (fun x : Pl xs => #[Value.int .i64 (x.1 : Int), win (xs.getD x.1 wn0).1 (xs.getD x.1 wn0).2.1 (xs.getD x.1 wn0).2.2]) (KB n₀ Bs) (fun ys => ys.map (·.1) = List.range N) (fun pre => ∃ k, k ≤ N ∧ pre.map (·.1) = List.range k) len w := fun l J Jx W hW hJ hJx hY h0 =>
  snd1_in n hn l Bs n₀ len cap a xs q hq hf hl hreach hc N hN0 hN1 J Jx hY W hJ (Nat.le_trans hn₀ hW.size) (Nat.lt_of_lt_of_le hBn hW.size) ((hW.cell (p := ⟨Bs, 0, none⟩) hBn).trans hcc) (hI.below hW) hlow h0
theorem Bk.own {A B : World} {b : Nat} {cs : Array Value} {row : Option Nat} (h : Bk A b cs) (h0 : 0 < cs.size) (hg : A.grownBy B row) (hr : ∀ r, row = some r → ∃ o : Obj, A.heap[r]? = some o ∧ o.isCells = false) : Bk B b cs := by
  have hne : some b ≠ row := fun e => by
    obtain ⟨o, ho, hc⟩ := hr b e.symm
    have := h.cell 0 _ (Array.getElem?_eq_getElem h0)
    cases o <;> simp_all [World.cell?, Obj.isCells]
  have hk := hg.block b h.lt hne
  exact ⟨Nat.lt_of_lt_of_le h.lt hg.size, fun i v e => (World.cell?_of_block (a := ⟨b, i, none⟩) hk).trans (h.cell i v e), fun i => (World.frozen?_of_block (a := ⟨b, i, none⟩) hk).trans (h.free i)⟩
theorem ASeg.low {w : World} {a : Option Addr} {xs : List Wn} {len : Nat} (h : ASeg w a xs) (hl : xs.length = len) (h0 : 0 < len) (b off : Nat) (e : a = some ⟨b, off, none⟩) : b < w.heap.size := by
  obtain ⟨b', off', e', hlt, _⟩ := h (by omega)
  rw [e'] at e
  cases e
  exact hlt
end Go.Proofs.Ytanffdedignegaa
