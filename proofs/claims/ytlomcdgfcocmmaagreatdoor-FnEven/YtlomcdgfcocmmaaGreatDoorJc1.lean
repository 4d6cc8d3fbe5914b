/-
  What the laws' helpers on lists of integers do: whether two lists read alike, the marks that are laid into a list and looked up. Conditions: the lists read as integers; a list that is marked is the call's own; lengths are at most 1048576.
  Lists of integers and of truth values that a call owns: plain facts on worlds. No conditions but those that each fact names.
  Small functions on time: which cycles there are, frames, places, ends of slots; the program's and the specification's. Conditions: those that each fact names.
  A search by halves through a function value, and the first slot of which something is so: the program's own functions. Conditions: the slots lie in memory; what is asked is so of all slots from one on.
  The first slot of which something is so, and the slot that has a cycle: the program's own functions. Conditions: the slots lie in memory; the tables are sound.
  The phase of a cycle, and whose slot it is in given phases: the program's own functions. Conditions: the slots lie in memory; the tables are sound.
  The slot that has a cycle, its phase, who may begin a step, whose slot begins: the specification's own functions. Conditions: the slots lie in memory; the tables are sound.
  Whose slot a cycle is in, in given phases: the program's own function; who may begin a step and whose slot begins: the specification's. Conditions: the slots lie in memory; the tables are sound.
  Frames, slots, phases, holders of cycles: the exported functions of the program and of the specification. Conditions: the lists lie in memory; the program's table of extras holds what the program's text lays.
  The next first cycle of a slot, and the cycles at which a partition may begin a step, as plain functions of sound tables. No function of the program in sight; no conditions but those that each fact names.
  The next slot that begins at a cycle or behind it: the program's own function, with its jump back from one frame to the next. Conditions: the slots lie in memory; the tables are sound.
  The next first cycle of a slot: both sides, and the law, walked. Conditions: the lists lie in memory; the program's table of extras holds what the program's text lays.
  The first cycles of a partition's slots, as a list: plain facts of sound tables. No function of the program in sight; no conditions but those that each fact names.
-/
import Derived.Test.YtlomcdgfcocmmaaGreatDoorBas
import Derived.Test.YtlomcdgfcocmmaaGreatDoorProg
import Derived.Deep.QuietTactic
import Derived.BigQuiet
import Derived.Deep.AppendLies
import Derived.OwnWalk
import Derived.Test.YtlomcdgfcocmmaaGreatDoorTim
import Derived.Test.YtlomcdgfcocmmaaGreatDoorRl3
import Derived.Test.YtlomcdgfcocmmaaGreatDoorSp6
import Derived.Test.YtlomcdgfcocmmaaGreatDoorRul
import Derived.Test.YtlomcdgfcocmmaaGreatDoorGen
import Derived.Test.YtlomcdgfcocmmaaGreatDoorClo6
import Derived.WalkMore
import Derived.ScopeJumps
import Derived.Test.YtlomcdgfcocmmaaGreatDoorLsw
namespace Go.Proofs.YtlomcdgfcocmmaaGreatDoor
open Go.ChangeShapes Go.WideShapes Go.ChangeAt Go.RowKit Go.Deep
set_option linter.unusedVariables false

/-- A list that lies in a block from 'lo' on and below 'hi' that may be written. -/
def OI (w : World) (lo hi : Nat) (a : Option Addr) (zs : List Int) : Prop :=
  0 < zs.length → ∃ B off, a = some ⟨B, off, none⟩ ∧ lo ≤ B ∧ B < hi ∧ B < w.heap.size ∧ (∀ i, i < zs.length → w.cell? ⟨B, off + i, none⟩ = some (.int .i64 (zs.getD i 0))) ∧ ∀ i, i < zs.length → w.frozen? ⟨B, off + i, none⟩ = false
theorem OI.seg {w : World} {lo hi : Nat} {a : Option Addr} {zs : List Int} (h : OI w lo hi a zs) : Seg .i64 w a zs := fun h0 => by
  obtain ⟨B, off, e, _, _, hlt, hc, _⟩ := h h0
  exact ⟨B, off, e, hlt, hc⟩
theorem OI.betw {w w' : World} {lo hi l' h' : Nat} {a : Option Addr} {zs : List Int} (h : OI w lo hi a zs) (hb : Betw l' h' w w') (ho : hi ≤ l' ∨ h' ≤ lo) : OI w' lo hi a zs := fun h0 => by
  obtain ⟨B, off, e, h1, h2, hlt, hc, hf⟩ := h h0
  exact ⟨B, off, e, h1, h2, Nat.lt_of_lt_of_le hlt hb.size, fun i hi => (hb.cell (p := ⟨B, off + i, none⟩) hlt (by simp; omega)).trans (hc i hi), fun i hi => (hb.frozen (p := ⟨B, off + i, none⟩) hlt (by simp; omega)).trans (hf i hi)⟩
theorem OI.below {w w' : World} {lo hi : Nat} {a : Option Addr} {zs : List Int} (h : OI w lo hi a zs) (hb : Below w.heap.size w w') : OI w' lo hi a zs :=
  OI.betw (l' := 0) (h' := 0) h (Below.betw hb) (.inr (Nat.zero_le _))
theorem OI.wide {w : World} {lo hi l' h' : Nat} {a : Option Addr} {zs : List Int} (h : OI w lo hi a zs) (g1 : l' ≤ lo) (g2 : hi ≤ h') : OI w l' h' a zs := fun h0 => by
  obtain ⟨B, off, e, h1, h2, r⟩ := h h0
  exact ⟨B, off, e, by omega, by omega, r⟩
def marks (k n : Nat) : List Int := (List.range n).map fun (i : Nat) => ((k + i : Nat) : Int)
theorem marks_len (k n : Nat) : (marks k n).length = n := by simp [marks]
theorem marks_at (k n i : Nat) (hi : i < n) : (marks k n).getD i 0 = ((k + i : Nat) : Int) := by simp [marks, hi, List.getD]
end Go.Proofs.YtlomcdgfcocmmaaGreatDoor
namespace Go.Proofs.YtlomcdgfcocmmaaGreatDoor
open Go.ChangeShapes Go.WideShapes Go.ChangeAt Go.RowKit Go.Deep
set_option linter.unusedVariables false

theorem newsI_at (w : World) (v : Value) (T : TypeId) (B : Nat) (hB : B = w.heap.size) : ∀ j u, [v][j]? = some u → (w.alloc (.cells #[v] T)).cell? ((⟨B, 0, none⟩ : Addr).add j) = some u := by
  subst hB
  exact World.news_of_block (cs := #[v]) (t := T) (fr := (0, 0)) (by show (w.heap.push _)[w.heap.size]? = _; simp)
theorem ownsI_below {w w' : World} {base : Nat} {e : TypeId} {size : Nat} {v : Value} {n : Nat} {xs : List Value} (h : w.ownsRow base e size v n xs) (hb : Below w.heap.size w w') : w'.ownsRow base e size v n xs :=
  World.ownsRow.kept (row := none) h ⟨hb.os, hb.tape, hb.output, hb.size, fun k hk _ => hb.block k hk⟩ (by cases hv : v.ownBlock <;> simp)
theorem ownsI_betw {w w' : World} {base lo hi : Nat} {e : TypeId} {size : Nat} {v : Value} {n : Nat} {xs : List Value} (h : w.ownsRow base e size v n xs) (hb : Betw lo hi w w') (ho : hi ≤ base) : w'.ownsRow base e size v n xs := by
  refine ⟨h.1, ?_⟩
  rcases h.2 with hn | ⟨g, cap, cur, rfl, hbs, hgg, rest⟩
  · exact .inl hn
  · refine .inr ⟨g, cap, cur, rfl, hbs, ?_, rest⟩
    have hlt : g < w.heap.size := by
      rcases Nat.lt_or_ge g w.heap.size with hlt | hge
      · exact hlt
      · rw [Array.getElem?_eq_none hge] at hgg; cases hgg
    rw [hb.block g hlt (by omega)]
    exact hgg
theorem ownI_low {w : World} {lo : Nat} {e : TypeId} {size : Nat} {v : Value} {n : Nat} {xs : List Value} (h : w.ownsRow lo e size v n xs) : ∀ g, v.ownBlock = some g → lo ≤ g := by
  rcases h.2 with ⟨h0, h1⟩ | ⟨g, cap, cur, rfl, hb, hg, h1, h2, h3, h4⟩
  · subst h0; intro k hk; cases hk
  · intro k hk; cases hk; exact hb
theorem Bk.grownI {w w' : World} {b lo : Nat} {cs : Array Value} {row : Option Nat} (h : Bk w b cs) (hg : w.grownBy w' row) (hne : ∀ g, row = some g → lo ≤ g) (hb : b < lo) : Bk w' b cs := by
  have hk := hg.block b h.lt (fun e => by have := hne b e.symm; omega)
  exact ⟨Nat.lt_of_lt_of_le h.lt hg.size, fun i v e => (World.cell?_of_block (a := ⟨b, i, none⟩) hk).trans (h.cell i v e), fun i => (World.frozen?_of_block (a := ⟨b, i, none⟩) hk).trans (h.free i)⟩
theorem infoI3 : (Tryz.prog.info? 3).map (fun i => (i.zero, i.size, i.bytes)) = some (some (.int .i64 0), 1, 8) := by kernel_rfl
theorem infoI3' : ∃ i, Tryz.prog.info? 3 = some i ∧ i.zero = some (.int .i64 0) ∧ i.size = 1 ∧ i.bytes = 8 := by
  obtain ⟨i, hi, h⟩ := Option.map_eq_some_iff.1 infoI3
  simp only [Prod.mk.injEq] at h
  exact ⟨i, hi, h.1, h.2.1, h.2.2⟩
def OwnI (w : World) (base : Nat) (v : Value) (zs : List Int) : Prop := w.ownsRow base 3 1 v zs.length (zs.map (Value.int .i64))
theorem OwnI.new (w : World) (B : Nat) (hB : B = w.heap.size) : OwnI (w.alloc (.cells #[] 3)) B (.slice (some ⟨B, 0, none⟩) 0 0) [] := by
  subst hB
  exact ⟨rfl, .inr ⟨w.heap.size, 0, #[], rfl, Nat.le_refl _, by show (w.heap.push _)[w.heap.size]? = _; simp, Nat.le_refl _, by simp, rfl, rfl⟩⟩
theorem OwnI.seg {w : World} {base : Nat} {v : Value} {zs : List Int} (h : OwnI w base v zs) : ∃ a cap, v = .slice a zs.length cap ∧ Seg .i64 w a zs := by
  rcases h.2 with ⟨h0, h1⟩ | ⟨g, cap, cur, rfl, hb, hg, h1, h2, h3, h4⟩
  · exact ⟨none, 0, by rw [h0, h1], fun h => absurd h (by omega)⟩
  · refine ⟨_, _, rfl, fun h0 => ⟨g, 0, rfl, ?_, fun i hi => ?_⟩⟩
    · rcases Nat.lt_or_ge g w.heap.size with hlt | hge
      · exact hlt
      · rw [Array.getElem?_eq_none hge] at hg; cases hg
    · rw [Nat.zero_add]
      have e : cur[i]? = some (.int .i64 (zs.getD i 0)) := by
        have := congrArg (·[i]?) h4
        simp only [Nat.mul_one] at this
        rw [List.getElem?_take, if_pos hi] at this
        simpa [hi, List.getD] using this
      simp [World.cell?, hg, e]
theorem OwnI.below {w w' : World} {base : Nat} {v : Value} {zs : List Int} (h : OwnI w base v zs) (hb : Below w.heap.size w w') : OwnI w' base v zs := ownsI_below h hb
theorem OwnI.low {w : World} {base b' : Nat} {v : Value} {zs : List Int} (h : OwnI w base v zs) (hle : b' ≤ base) : OwnI w b' v zs := by
  refine ⟨h.1, ?_⟩
  rcases h.2 with hn | ⟨g, cap, cur, e, hb, rest⟩
  · exact .inl hn
  · exact .inr ⟨g, cap, cur, e, by omega, rest⟩
theorem OwnI.snoc {w : World} {base g cap : Nat} {zs : List Int} {r : Int} (h : w.ownsRow base 3 1 (.slice (some ⟨g, 0, none⟩) (zs.length + 1) cap) (zs.length + 1) (zs.map (Value.int .i64) ++ [.int .i64 r])) :
    OwnI w base (.slice (some ⟨g, 0, none⟩) (zs.length + 1) cap) (zs ++ [r]) := by
  unfold OwnI
  simpa using h
theorem OwnI.kept {w w' : World} {base : Nat} {v : Value} {zs : List Int} {row : Option Nat} (h : OwnI w base v zs) (hg : w.grownBy w' row) (hne : ∀ g, v.ownBlock = some g → row ≠ some g) : OwnI w' base v zs :=
  World.ownsRow.kept h hg (by
    cases hv : v.ownBlock with
    | none => exact .inl rfl
    | some g => exact .inr (fun e => hne g hv e.symm))
theorem newsI_int (w : World) (z : Int) (B : Nat) (hB : B = w.heap.size) : ∀ j u, [Value.int .i64 z][j]? = some u → (w.alloc (.cells #[.int .i64 z] 3)).cell? ((⟨B, 0, none⟩ : Addr).add j) = some u := newsI_at w _ 3 B hB
theorem oneI_int (r : Int) : ∀ u ∈ [Value.int .i64 r], u.oneCell' = true := by
  intro u hu
  simp only [List.mem_singleton] at hu
  subst hu
  rfl
theorem OwnI.blk {w w' : World} {base B : Nat} {v : Value} {zs : List Int} (h : OwnI w base v zs) (hb : Below B w w') (hlt : ∀ g, v.ownBlock = some g → g < B) : OwnI w' base v zs := by
  refine ⟨h.1, ?_⟩
  rcases h.2 with hn | ⟨g, cap, cur, e, hbs, hg, rest⟩
  · exact .inl hn
  · exact .inr ⟨g, cap, cur, e, hbs, by rw [hb.block g (hlt g (by rw [e]; rfl))]; exact hg, rest⟩
def LPostI (X : World) (zs : List Int) (e : Ending) (w' : World) : Prop :=
  ∃ a cap, e = .returned (.slice a zs.length cap) ∧ Below X.heap.size X w' ∧ OI w' X.heap.size w'.heap.size a zs
theorem OwnI.oi {w : World} {base : Nat} {v : Value} {zs : List Int} (h : OwnI w base v zs) : ∃ a cap, v = .slice a zs.length cap ∧ OI w base w.heap.size a zs := by
  rcases h.2 with ⟨h0, h1⟩ | ⟨g, cap, cur, rfl, hb, hg, h1, h2, h3, h4⟩
  · exact ⟨none, 0, by rw [h0, h1], fun h => absurd h (by omega)⟩
  · have hlt : g < w.heap.size := by
      rcases Nat.lt_or_ge g w.heap.size with hlt | hge
      · exact hlt
      · rw [Array.getElem?_eq_none hge] at hg; cases hg
    refine ⟨_, _, rfl, fun h0 => ⟨g, 0, rfl, hb, hlt, hlt, fun i hi => ?_, fun i hi => by simp [World.frozen?, hg]⟩⟩
    rw [Nat.zero_add]
    have e : cur[i]? = some (.int .i64 (zs.getD i 0)) := by
      have := congrArg (·[i]?) h4
      simp only [Nat.mul_one] at this
      rw [List.getElem?_take, if_pos hi] at this
      simpa [hi, List.getD] using this
    simp [World.cell?, hg, e]
end Go.Proofs.YtlomcdgfcocmmaaGreatDoor
namespace Go.Proofs.YtlomcdgfcocmmaaGreatDoor
open Go.ChangeShapes Go.WideShapes Go.ChangeAt Go.RowKit Go.Deep Go.Joins
set_option linter.unusedVariables false

theorem is_cyc (x : Int) (w : World) : Calls Tryz.prog 81 #[.int .i64 x] w fun e w' => e = .returned (.bool (inr x 0 50000)) ∧ w' = w := by
  by_cases h1 : 0 ≤ x
  · by_cases h2 : x ≤ 50000
    · rw [inr_yes ⟨h1, h2⟩]
      go_enter Tryz.func81, Tryz.ntmps81
      go_wp2
      go_ret
      exact ⟨rfl, rfl⟩
    · rw [inr_no (fun g => h2 g.2)]
      go_enter Tryz.func81, Tryz.ntmps81
      go_wp2
      go_ret
      exact ⟨rfl, rfl⟩
  · rw [inr_no (fun g => h1 g.1)]
    go_enter Tryz.func81, Tryz.ntmps81
    go_wp2
    go_ret
    exact ⟨rfl, rfl⟩
set_option maxRecDepth 20000 in
theorem e_cyc : ∀ args (v : World), (callFunc 81 args).run Tryz.prog v = .ok (.enter 81 args) v := enters_of Tryz.func81 (by kernel_rfl) rfl
set_option maxRecDepth 40000 in
set_option maxHeartbeats 4000000 in
theorem keeps (t : Tb) (a : Ad) (zs : List Int) (n cap : Nat) (A : Option Addr) (q : Bool) (w : World) (hm : TM 0 w t a) (hw : TW t a) (hs : TS a) (he : TabE w) (hcp : a.pn ≤ a.pc) (hz : GSeg 1 w A n (inX zs)) (hn : n ≤ 1048576) (hq : q = true ↔ ((∀ i, i < n → IsC (zs.getD i 0)) ∧ Sd t)) :
    Calls Tryz.prog 48 #[tbV t a, .slice A n cap] w fun e w' => e = .returned (.bool q) ∧ Below w.heap.size w w' := by
  obtain ⟨q1, hq1⟩ := told (∀ i, i < n → IsC (zs.getD i 0))
  obtain ⟨q2, hq2⟩ := told (Sd t)
  have HB0 : Hid (Below w.heap.size w (w.alloc (.cells (tbA t a) 33))) := (Below.refl _ _).alloc (Nat.le_refl _) _
  have HX0 : Hid (TBx (w.alloc (.cells (tbA t a) 33)) w.heap.size t a) := TBx.new w t a _ rfl
  have HE : Hid (Calls Tryz.prog 80 #[.slice A n cap, .func (.func 81) #[] #[]] (w.alloc (.cells (tbA t a) 33)) fun e w' => e = .returned (.bool q1) ∧ Below (w.alloc (.cells (tbA t a) 33)).heap.size (w.alloc (.cells (tbA t a) 33)) w') :=
    in_every A cap n zs (fun i => inr (zs.getD i 0) 0 50000) q1 81 #[] #[] _ (hz.below HB0.out) (by omega) e_cyc
      (fun i hi X hX => (is_cyc (zs.getD i 0) X).mono fun e w' ⟨h1, h2⟩ => ⟨h1, by rw [h2]; exact Below.refl _ _⟩)
      (hq1.trans ⟨fun h i hi => inr_yes (h i hi), fun h i hi => of_inr (h i hi)⟩)
  have HS : Hid (∀ X, Below w.heap.size w X → Calls Tryz.prog 13 #[tbV t a] X fun e w' => e = .returned (.bool q2) ∧ Below X.heap.size X w') := fun X hX => impl_sound t a q2 X (hm.below hX) hw hs (he.below hX) hcp hq2
  have HN : Hid (q1 = false ∨ q2 = false → q = false) := fun h => not_true hq (fun g => by
    rcases h with h | h
    · rw [hq1.2 g.1] at h; cases h
    · rw [hq2.2 g.2] at h; cases h)
  have HY : Hid (q1 = true → q2 = true → q = true) := fun h1 h2 => hq.2 ⟨hq1.1 h1, hq2.1 h2⟩
  clear hq hq1 hq2 hm hw hs he hcp hz hn
  go_enter Tryz.func48, Tryz.ntmps48
  go_wp2_with fail
  refine Calls.mono HE.out ?_
  rintro e w1 ⟨rfl, hb1⟩
  have HB1 : Hid (Below w.heap.size w w1) := HB0.out.trans (hb1.mono HB0.out.size)
  have HX1 : Hid (w1.heap[w.heap.size]? = some (.cells (tbA t a) 33 (0, 0))) := HX0.out.below hb1
  clear hb1 HB0 HX0 HE
  cases q1
  · have HT : Hid (q = false) := HN.out (.inl (by trivial))
    go_wp2
    go_ret
    exact ⟨ret_bool HT.out.symm, HB1.out⟩
  go_wp2_with (first | (refine wpList_load_rowG rfl 33 (.tmp 2) rfl w.heap.size rfl 33 (tbA t a) (0, 0) _ HX1.out Tryz.underlying33 rfl (by kernel_rfl) ?_) | fail)
  refine Calls.mono (HS.out _ HB1.out) ?_
  rintro e w2 ⟨rfl, hb2⟩
  have HB2 : Hid (Below w.heap.size w w2) := HB1.out.trans (hb2.mono HB1.out.size)
  clear hb2 HX1 HS
  have HT : Hid (q2 = q) := by
    cases q2
    · exact (HN.out (.inr (by first | rfl | trivial))).symm
    · exact (HY.out (by first | rfl | trivial) (by first | rfl | trivial)).symm
  go_wp2
  go_ret
  exact ⟨ret_bool HT.out, HB2.out⟩
set_option maxRecDepth 40000 in
set_option maxHeartbeats 4000000 in
theorem spec_tok (t : Tb) (a : Ad) (c : Int) (q : Bool) (w : World) (hm : TM 0 w t a) (hw : TW t a) (hs : TS a) (hq : q = true ↔ (Sd t ∧ IsC c)) :
    Calls Tryz.prog 51 #[tbV t a, .int .i64 c] w fun e w' => e = .returned (.bool q) ∧ Below w.heap.size w w' := by
  obtain ⟨q2, hq2⟩ := told (Sd t)
  obtain ⟨q1, HQ1⟩ : ∃ b, Hid (inr c 0 50000 = b) := ⟨_, rfl⟩
  have HB0 : Hid (Below w.heap.size w (w.alloc (.cells (tbA t a) 33))) := (Below.refl _ _).alloc (Nat.le_refl _) _
  have HX0 : Hid (TBx (w.alloc (.cells (tbA t a) 33)) w.heap.size t a) := TBx.new w t a _ rfl
  have HS : Hid (Calls Tryz.prog 32 #[tbV t a] (w.alloc (.cells (tbA t a) 33)) fun e w' => e = .returned (.bool q2) ∧ Below (w.alloc (.cells (tbA t a) 33)).heap.size (w.alloc (.cells (tbA t a) 33)) w') := spec_sound t a q2 _ (hm.below HB0.out) hw hs hq2
  have HI : Hid (∀ X, Calls Tryz.prog 33 #[.int .i64 c, .int .i64 0, .int .i64 50000] X fun e w' => e = .returned (.bool q1) ∧ w' = X) := fun X => by rw [← HQ1.out]; exact in_any _ _ _ X
  have HN : Hid (q1 = false ∨ q2 = false → q = false) := fun h => not_true hq (fun g => by
    rcases h with h | h
    · rw [← HQ1.out, inr_yes g.2] at h; cases h
    · rw [hq2.2 g.1] at h; cases h)
  have HY : Hid (q1 = true → q2 = true → q = true) := fun h1 h2 => hq.2 ⟨hq2.1 h2, of_inr (HQ1.out.trans h1)⟩
  clear hq hq2 hm hw hs HQ1
  go_enter Tryz.func51, Tryz.ntmps51
  go_wp2_with (first | (refine wpList_load_row rfl 33 (.tmp 2) rfl w.heap.size rfl 33 (tbA t a) (0, 0) _ HX0.out Tryz.underlying33 rfl (by kernel_rfl) ?_) | fail)
  refine Calls.mono HS.out ?_
  rintro e w1 ⟨rfl, hb1⟩
  have HB1 : Hid (Below w.heap.size w w1) := HB0.out.trans (hb1.mono HB0.out.size)
  clear hb1 HB0 HX0 HS
  cases q2
  · have HT : Hid (q = false) := HN.out (.inr (by trivial))
    go_wp2
    go_ret
    exact ⟨ret_bool HT.out.symm, HB1.out⟩
  go_wp2_with fail
  refine Calls.mono (HI.out _) ?_
  rintro e w2 ⟨rfl, rfl⟩
  have HT : Hid (q1 = q) := by
    cases q1
    · exact (HN.out (.inl (by first | rfl | trivial))).symm
    · exact (HY.out (by first | rfl | trivial) (by first | rfl | trivial)).symm
  clear HN HY HI
  go_wp2
  go_ret
  exact ⟨ret_bool HT.out, HB1.out⟩
set_option maxRecDepth 40000 in
set_option maxHeartbeats 4000000 in
theorem frame_of (t : Tb) (a : Ad) (c r : Int) (w : World) (hm1 : 1 ≤ t.maj) (hc : 0 ≤ c) (hc2 : c ≤ 1000000) (hr : c / t.maj = r) :
    Calls Tryz.prog 85 #[tbV t a, .int .i64 c] w fun e w' => e = .returned (.int .i64 r) ∧ Below w.heap.size w w' := by
  have HB0 : Hid (Below w.heap.size w (w.alloc (.cells (tbA t a) 33))) := (Below.refl _ _).alloc (Nat.le_refl _) _
  have HX0 : Hid (TBx (w.alloc (.cells (tbA t a) 33)) w.heap.size t a) := TBx.new w t a _ rfl
  have k14 : (w.alloc (.cells (tbA t a) 33)).cell? ⟨w.heap.size, 14, none⟩ = some (.int .i64 t.maj) := HX0.out.cell 14 rfl
  have hm0 : ¬ (t.maj = 0) := by omega
  have HR : Hid (c / t.maj = r) := hr
  clear hr HX0
  go_enter Tryz.func85, Tryz.ntmps85
  go_wp2
  go_ret
  exact ⟨ret_int (HR.out), HB0.out⟩
set_option maxRecDepth 40000 in
set_option maxHeartbeats 4000000 in
theorem place_of (t : Tb) (a : Ad) (c r : Int) (w : World) (hm1 : 1 ≤ t.maj) (hc : 0 ≤ c) (hc2 : c ≤ 1000000) (hr : c % t.maj = r) :
    Calls Tryz.prog 87 #[tbV t a, .int .i64 c] w fun e w' => e = .returned (.int .i64 r) ∧ Below w.heap.size w w' := by
  have HB0 : Hid (Below w.heap.size w (w.alloc (.cells (tbA t a) 33))) := (Below.refl _ _).alloc (Nat.le_refl _) _
  have HX0 : Hid (TBx (w.alloc (.cells (tbA t a) 33)) w.heap.size t a) := TBx.new w t a _ rfl
  have k14 : (w.alloc (.cells (tbA t a) 33)).cell? ⟨w.heap.size, 14, none⟩ = some (.int .i64 t.maj) := HX0.out.cell 14 rfl
  have hm0 : ¬ (t.maj = 0) := by omega
  have HR : Hid (c % t.maj = r) := hr
  clear hr HX0
  go_enter Tryz.func87, Tryz.ntmps87
  go_wp2
  go_ret
  exact ⟨ret_int (HR.out), HB0.out⟩
end Go.Proofs.YtlomcdgfcocmmaaGreatDoor
namespace Go.Proofs.YtlomcdgfcocmmaaGreatDoor
open Go.ChangeShapes Go.WideShapes Go.ChangeAt Go.RowKit Go.Deep Go.Joins
set_option linter.unusedVariables false

set_option maxRecDepth 40000 in
set_option maxHeartbeats 4000000 in
theorem search_any (n r : Nat) (fid : Nat) (caps : Array Value) (w : World) (hn : n ≤ 1048576) (hr : r ≤ n) (hen : ∀ args (v : World), (callFunc fid args).run Tryz.prog v = .ok (.enter fid args) v)
    (hf : ∀ k, k < n → ∀ X, Below w.heap.size w X → Calls Tryz.prog fid (#[.int .i64 ((k : Nat) : Int)] ++ caps) X fun e w' => e = .returned (.bool (decide (r ≤ k))) ∧ Below X.heap.size X w') :
    Calls Tryz.prog 171 #[.int .i64 (n : Int), .func (.func fid) #[] caps] w fun e w' => e = .returned (.int .i64 (r : Int)) ∧ Below w.heap.size w w' := by
  have HF : Hid (∀ k, k < n → ∀ X, Below w.heap.size w X → Calls Tryz.prog fid (#[.int .i64 ((k : Nat) : Int)] ++ caps) X fun e w' => e = .returned (.bool (decide (r ≤ k))) ∧ Below X.heap.size X w') := hf
  have HR0 : Hid (r ≤ n) := hr
  clear hf hr
  go_enter Tryz.func171, Tryz.ntmps171
  go_wp2
  go_loopw [5, 6] (fun v u wr => ∃ i j : Nat, i ≤ j ∧ j ≤ n ∧ v = .int .i64 i ∧ u = .int .i64 j ∧ Hid (i ≤ r ∧ r ≤ j ∧ Below w.heap.size w wr)) (fun v u _ => (intOf u).toNat - (intOf v).toNat)
  case atStart => exact ⟨0, n, by omega, by omega, rfl, rfl, by omega, HR0.out, Below.refl _ _⟩
  case round =>
    obtain ⟨i, j, hij, hjn, rfl, rfl, HR⟩ := hrel
    have HB : Hid (Below w.heap.size w wr) := HR.out.2.2
    by_cases h : i < j
    rotate_left
    · have e1 : i = r := by have := HR.out; omega
      subst e1
      have h0 : ¬ ((i : Int) < (j : Int)) := by omega
      clear HR
      go_wp2
      go_ret
      exact ⟨rfl, HB.out⟩
    have h' : (i : Int) < (j : Int) := by omega
    obtain ⟨h3, hh3⟩ : ∃ m : Nat, m = (i + j) / 2 := ⟨_, rfl⟩
    have hm1 : i ≤ h3 := by omega
    have hm2 : h3 < j := by omega
    have hw1 : IntKind.i64.wrap ((i : Int) + (j : Int)) = (i : Int) + (j : Int) := by rw [IntKind.wrap_i64]; omega
    have HFm : Hid _ := HF.out h3 (by omega)
    have HH : Hid (h3 = (i + j) / 2) := hh3
    clear hh3
    go_wp2_with fail
    have he2 : ((i : Int) + (j : Int)) / 2 = (h3 : Int) := by have := HH.out; omega
    rw [he2]
    refine (HFm.out _ HB.out).mono ?_
    rintro u w1 ⟨rfl, hb1⟩
    have HB1 : Hid (Below w.heap.size w w1) := HB.out.trans (hb1.mono HB.out.size)
    clear hb1 he2 hw1
    by_cases g : r ≤ h3
    · have HT : Hid (i ≤ r ∧ r ≤ h3 ∧ Below w.heap.size w w1) := ⟨HR.out.1, g, HB1.out⟩
      have hd : decide (r ≤ h3) = true := decide_eq_true g
      rw [hd]
      clear HR HH HFm g hd
      go_wp2
      go_roundw
      case rel => exact ⟨i, h3, hm1, by omega, rfl, rfl, HT.out⟩
      case measure => simp [intOf]; omega
    · have HT : Hid (h3 + 1 ≤ r ∧ r ≤ j ∧ Below w.heap.size w w1) := ⟨by omega, HR.out.2.1, HB1.out⟩
      have hd : decide (r ≤ h3) = false := decide_eq_false g
      rw [hd]
      clear HR HH HFm g hd
      go_wp2
      go_roundw
      case rel => exact ⟨h3 + 1, j, by omega, by omega, by go_num, rfl, HT.out⟩
      case measure => simp [intOf]; omega
set_option maxRecDepth 20000 in
theorem e_fs1 : ∀ args (v : World), (callFunc 172 args).run Tryz.prog v = .ok (.enter 172 args) v := enters_of Tryz.func172 (by kernel_rfl) rfl
set_option maxRecDepth 20000 in
theorem e_sa1 : ∀ args (v : World), (callFunc 173 args).run Tryz.prog v = .ok (.enter 173 args) v := enters_of Tryz.func173 (by kernel_rfl) rfl
set_option maxRecDepth 20000 in
theorem e_nt1 : ∀ args (v : World), (callFunc 105 args).run Tryz.prog v = .ok (.enter 105 args) v := enters_of Tryz.func105 (by kernel_rfl) rfl
set_option maxRecDepth 40000 in
set_option maxHeartbeats 4000000 in
theorem next_one (x : slT) (p : Int) (B : Nat) (X : World) (hc : X.cell? ⟨B, 0, none⟩ = some (.int .i64 p)) :
    Calls Tryz.prog 105 #[slV x, .pointer (some ⟨B, 0, none⟩)] X fun e w' => e = .returned (.bool (decide (p ≤ x.2.1))) ∧ Below X.heap.size X w' := by
  obtain ⟨x1, x2, x3⟩ := x
  have HB0 : Hid (Below X.heap.size X (X.alloc (.cells #[.int .i64 x1, .int .i64 x2, .int .i64 x3] 42))) := (Below.refl _ _).alloc (Nat.le_refl _) _
  have k0 : (X.alloc (.cells #[.int .i64 x1, .int .i64 x2, .int .i64 x3] 42)).cell? ⟨B, 0, none⟩ = some (.int .i64 p) := kept_cell HB0.out hc
  clear hc
  go_enter Tryz.func105, Tryz.ntmps105
  go_wp2
  go_ret
  exact ⟨rfl, HB0.out⟩
set_option maxRecDepth 40000 in
set_option maxHeartbeats 4000000 in
theorem slot_one (x : slT) (p : Int) (B : Nat) (X : World) (hc : X.cell? ⟨B, 0, none⟩ = some (.int .i64 p)) (hx : 0 ≤ x.2.1 ∧ 0 ≤ x.2.2 ∧ x.2.1 + x.2.2 ≤ 5000) :
    Calls Tryz.prog 173 #[slV x, .pointer (some ⟨B, 0, none⟩)] X fun e w' => e = .returned (.bool (decide (p < x.2.1 + x.2.2))) ∧ Below X.heap.size X w' := by
  obtain ⟨x1, x2, x3⟩ := x
  simp only at hx
  have HB0 : Hid (Below X.heap.size X (X.alloc (.cells #[.int .i64 x1, .int .i64 x2, .int .i64 x3] 42))) := (Below.refl _ _).alloc (Nat.le_refl _) _
  have k0 : (X.alloc (.cells #[.int .i64 x1, .int .i64 x2, .int .i64 x3] 42)).cell? ⟨B, 0, none⟩ = some (.int .i64 p) := kept_cell HB0.out hc
  have K : Hid (CellsAt (X.alloc (.cells #[.int .i64 x1, .int .i64 x2, .int .i64 x3] 42)) X.heap.size 0 [.int .i64 x1, .int .i64 x2, .int .i64 x3]) := CellsAt.new X [.int .i64 x1, .int .i64 x2, .int .i64 x3] 42 _ rfl
  have HE : Hid (∀ Y, Calls Tryz.prog 65 #[.agg #[.int .i64 x1, .int .i64 x2, .int .i64 x3]] Y fun e w' => e = .returned (.int .i64 (x2 + x3)) ∧ Below Y.heap.size Y w') := fun Y => slot_end x1 x2 x3 Y (by rw [IntKind.wrap_i64]; omega)
  obtain ⟨z, HZ⟩ : ∃ z, Hid (x2 + x3 = z) := ⟨_, rfl⟩
  rw [HZ.out] at HE
  simp only
  rw [HZ.out]
  clear hc hx
  go_enter Tryz.func173, Tryz.ntmps173
  go_wp2
  have c0 := cell0 K.out 0 rfl
  have c1 := cell0 K.out 1 rfl
  have c2 := cell0 K.out 2 rfl
  revert HB0 k0 c0 c1 c2
  clear K
  generalize X.alloc (.cells #[.int .i64 x1, .int .i64 x2, .int .i64 x3] 42) = V
  intro HB0 k0 c0 c1 c2
  have G0 := fun Y => gr_cell (W0 := V) k0 Y
  have G1 := fun Y => gr_cell (W0 := V) c0 Y
  have G2 := fun Y => gr_cell (W0 := V) c1 Y
  have G3 := fun Y => gr_cell (W0 := V) c2 Y
  have hgr := gr_some V
  refine region_alike (by kernel_rfl) (by kernel_rfl) ?_
  repeat (go_big_quiet_step (first | (go_at_call 65; exact gr_call (HE.out _))))
  refine wpQuiet_nil ?_
  intro _ hw'
  obtain ⟨X1, rfl⟩ := hw'
  have HB2 : Hid (Below X.heap.size X X1.w) := HB0.out.trans (X1.h.mono HB0.out.size)
  generalize X1.w = W2 at HB2 ⊢
  clear G0 G1 G2 G3 HE hgr
  go_wp2
  go_ret
  exact ⟨rfl, HB2.out⟩
set_option maxRecDepth 40000 in
set_option maxHeartbeats 4000000 in
theorem first_one (xs : List slT) (n k : Nat) (sa : Option Addr) (fid : Nat) (caps : Array Value) (b : Bool) (B C : Nat) (X : World) (hs : GSeg 3 X sa n (slX xs)) (hk : k < n) (hn : n ≤ 1048576) (hen : ∀ args (v : World), (callFunc fid args).run Tryz.prog v = .ok (.enter fid args) v)
    (hB : X.cell? ⟨B, 0, none⟩ = some (.func (.func fid) #[] caps)) (hC : X.cell? ⟨C, 0, none⟩ = some (.slice sa n n))
    (hf : ∀ Y, Below X.heap.size X Y → Calls Tryz.prog fid (#[slV (xs.getD k sl0)] ++ caps) Y fun e w' => e = .returned (.bool b) ∧ Below Y.heap.size Y w') :
    Calls Tryz.prog 172 #[.int .i64 (k : Int), .pointer (some ⟨B, 0, none⟩), .pointer (some ⟨C, 0, none⟩)] X fun e w' => e = .returned (.bool b) ∧ Below X.heap.size X w' := by
  obtain ⟨b1, o1, rfl, hbl1, p1⟩ := hs.at k hk
  have hk' : (k : Int) < (n : Int) := by omega
  have HF : Hid (∀ Y : Gr X, Calls Tryz.prog fid (#[slV (xs.getD k sl0)] ++ caps) Y.w fun e w' => e = .returned (.bool b) ∧ Below Y.w.heap.size Y.w w') := fun Y => hf Y.w Y.h
  simp only [slX] at p1
  generalize xs.getD k sl0 = x at p1 HF
  obtain ⟨c0, c1, c2⟩ := sl_cells p1
  obtain ⟨x1, x2, x3⟩ := x
  simp only [slV] at c0 c1 c2 HF
  clear hf hs p1 hbl1
  go_enter Tryz.func172, Tryz.ntmps172
  go_wp2
  have G0 := fun Y => gr_cell (W0 := X) c0 Y
  have G1 := fun Y => gr_cell (W0 := X) c1 Y
  have G2 := fun Y => gr_cell (W0 := X) c2 Y
  have G3 := fun Y => gr_cell (W0 := X) hB Y
  have G4 := fun Y => gr_cell (W0 := X) hC Y
  have hgr := gr_some X
  refine region_alike (by kernel_rfl) (by kernel_rfl) ?_
  repeat (go_big_quiet_step (first | (refine gr_call (HF.out _))))
  refine wpQuiet_nil ?_
  intro _ hw'
  obtain ⟨X1, rfl⟩ := hw'
  have HB2 : Hid (Below X.heap.size X X1.w) := X1.h
  generalize X1.w = W2 at HB2 ⊢
  clear G0 G1 G2 G3 G4 HF hgr
  go_wp2
  go_ret
  exact ⟨rfl, HB2.out⟩
end Go.Proofs.YtlomcdgfcocmmaaGreatDoor
namespace Go.Proofs.YtlomcdgfcocmmaaGreatDoor
open Go.ChangeShapes Go.WideShapes Go.ChangeAt Go.RowKit Go.Deep Go.Joins
set_option linter.unusedVariables false

set_option maxRecDepth 40000 in
set_option maxHeartbeats 4000000 in
theorem first_slot (t : Tb) (a : Ad) (r : Nat) (fid : Nat) (caps : Array Value) (w : World) (hs : GSeg 3 w a.sa a.sn (slX t.ss)) (hn : a.sn ≤ 1048576) (h1 : 1 ≤ a.sn) (hcs : a.sn ≤ a.sc) (hr : r ≤ a.sn) (hen : ∀ args (v : World), (callFunc fid args).run Tryz.prog v = .ok (.enter fid args) v)
    (hf : ∀ k, k < a.sn → ∀ Y, Below w.heap.size w Y → Calls Tryz.prog fid (#[slV (t.ss.getD k sl0)] ++ caps) Y fun e w' => e = .returned (.bool (decide (r ≤ k))) ∧ Below Y.heap.size Y w') :
    Calls Tryz.prog 104 #[tbV t a, .func (.func fid) #[] caps] w fun e w' => e = .returned (.int .i64 (r : Int)) ∧ Below w.heap.size w w' := by
  have HB0 : Hid (Below w.heap.size w (w.alloc (.cells (tbA t a) 33))) := (Below.refl _ _).alloc (Nat.le_refl _) _
  have HX0 : Hid (TBx (w.alloc (.cells (tbA t a) 33)) w.heap.size t a) := TBx.new w t a _ rfl
  have hbA : Below (w.alloc (.cells (tbA t a) 33)).heap.size (w.alloc (.cells (tbA t a) 33)) ((w.alloc (.cells (tbA t a) 33)).alloc (.cells #[.func (.func fid) #[] caps] 129)) := (Below.refl _ _).alloc (Nat.le_refl _) _
  have hbB : Below ((w.alloc (.cells (tbA t a) 33)).alloc (.cells #[.func (.func fid) #[] caps] 129)).heap.size ((w.alloc (.cells (tbA t a) 33)).alloc (.cells #[.func (.func fid) #[] caps] 129)) (((w.alloc (.cells (tbA t a) 33)).alloc (.cells #[.func (.func fid) #[] caps] 129)).alloc (.cells #[.slice a.sa a.sn a.sn] 31)) := (Below.refl _ _).alloc (Nat.le_refl _) _
  have HB1 : Hid (Below w.heap.size w ((w.alloc (.cells (tbA t a) 33)).alloc (.cells #[.func (.func fid) #[] caps] 129))) := HB0.out.trans (hbA.mono HB0.out.size)
  have HB2 : Hid (Below w.heap.size w (((w.alloc (.cells (tbA t a) 33)).alloc (.cells #[.func (.func fid) #[] caps] 129)).alloc (.cells #[.slice a.sa a.sn a.sn] 31))) := HB1.out.trans (hbB.mono HB1.out.size)
  have k18 : ((w.alloc (.cells (tbA t a) 33)).alloc (.cells #[.func (.func fid) #[] caps] 129)).cell? ⟨w.heap.size, 18, none⟩ = some (.slice a.sa a.sn a.sc) := kept_cell hbA (HX0.out.cell 18 rfl)
  have KF : Hid ((((w.alloc (.cells (tbA t a) 33)).alloc (.cells #[.func (.func fid) #[] caps] 129)).alloc (.cells #[.slice a.sa a.sn a.sn] 31)).cell? ⟨w.heap.size + 1, 0, none⟩ = some (.func (.func fid) #[] caps)) := kept_cell hbB (cell0 (CellsAt.new (w.alloc (.cells (tbA t a) 33)) [.func (.func fid) #[] caps] _ (w.heap.size + 1) (by simp)) 0 rfl)
  have KS : Hid ((((w.alloc (.cells (tbA t a) 33)).alloc (.cells #[.func (.func fid) #[] caps] 129)).alloc (.cells #[.slice a.sa a.sn a.sn] 31)).cell? ⟨w.heap.size + 1 + 1, 0, none⟩ = some (.slice a.sa a.sn a.sn)) := cell0 (CellsAt.new ((w.alloc (.cells (tbA t a) 33)).alloc (.cells #[.func (.func fid) #[] caps] 129)) [.slice a.sa a.sn a.sn] _ (w.heap.size + 1 + 1) (by simp)) 0 rfl
  have HC : Hid (Calls Tryz.prog 171 #[.int .i64 (a.sn : Int), .func (.func 172) #[] #[.pointer (some ⟨w.heap.size + 1, 0, none⟩), .pointer (some ⟨w.heap.size + 1 + 1, 0, none⟩)]] (((w.alloc (.cells (tbA t a) 33)).alloc (.cells #[.func (.func fid) #[] caps] 129)).alloc (.cells #[.slice a.sa a.sn a.sn] 31)) fun e w' => e = .returned (.int .i64 (r : Int)) ∧ Below (((w.alloc (.cells (tbA t a) 33)).alloc (.cells #[.func (.func fid) #[] caps] 129)).alloc (.cells #[.slice a.sa a.sn a.sn] 31)).heap.size (((w.alloc (.cells (tbA t a) 33)).alloc (.cells #[.func (.func fid) #[] caps] 129)).alloc (.cells #[.slice a.sa a.sn a.sn] 31)) w') :=
    search_any a.sn r 172 #[.pointer (some ⟨w.heap.size + 1, 0, none⟩), .pointer (some ⟨w.heap.size + 1 + 1, 0, none⟩)] (((w.alloc (.cells (tbA t a) 33)).alloc (.cells #[.func (.func fid) #[] caps] 129)).alloc (.cells #[.slice a.sa a.sn a.sn] 31)) hn hr e_fs1
      (fun k hk X hX => first_one t.ss a.sn k a.sa fid caps _ (w.heap.size + 1) (w.heap.size + 1 + 1) X ((hs.below HB2.out).below hX) hk hn hen (kept_cell hX KF.out) (kept_cell hX KS.out)
        (fun Y hY => hf k hk Y ((HB2.out.trans (hX.mono HB2.out.size)).trans (hY.mono (Nat.le_trans HB2.out.size hX.size)))))
  clear hf hs KF KS HX0 hbA hbB hr hen
  go_enter Tryz.func104, Tryz.ntmps104
  go_wp2_with fail
  refine Calls.mono HC.out ?_
  rintro e w1 ⟨rfl, hb⟩
  have HB : Hid (Below w.heap.size w w1) := HB2.out.trans (hb.mono HB2.out.size)
  clear hb HC HB0 HB1 HB2 k18
  go_wp2
  go_ret
  exact ⟨rfl, HB.out⟩
/-- Where what is so of one is so of all behind it, there is a first one. -/
theorem first_ex (P : Nat → Prop) (n : Nat) (hm : ∀ i j, i < j → j < n → P i → P j) : ∃ r, r ≤ n ∧ ∀ k, k < n → (P k ↔ r ≤ k) := by
  induction n with
  | zero => exact ⟨0, by omega, fun k hk => by omega⟩
  | succ n ih =>
    obtain ⟨r, hr, h⟩ := ih (fun i j hi hj => hm i j hi (by omega))
    by_cases g : P n
    · exact ⟨r, by omega, fun k hk => by
        by_cases e : k = n
        · subst e; exact ⟨fun _ => hr, fun _ => g⟩
        · exact h k (by omega)⟩
    · refine ⟨n + 1, by omega, fun k hk => ?_⟩
      by_cases e : k = n
      · subst e; exact ⟨fun q => absurd q g, fun q => by omega⟩
      · exact ⟨fun q => absurd (hm k n (by omega) (by omega) q) g, fun q => by omega⟩
theorem end_first {t : Tb} (h : Tm t) (p : Int) : ∃ r, r ≤ t.ss.length ∧ ∀ k, k < t.ss.length → (p < (t.ss.getD k sl0).2.1 + (t.ss.getD k sl0).2.2 ↔ r ≤ k) :=
  first_ex _ _ (fun i j hi hj g => by
    have h1 := h.od i j hi hj
    have h2 := h.ln j hj
    have := h.pad1
    have := h.grd1
    omega)
theorem slotV_first {t : Tb} (h : Tm t) {p : Int} {r : Nat} (hr : ∀ k, k < t.ss.length → (p < (t.ss.getD k sl0).2.1 + (t.ss.getD k sl0).2.2 ↔ r ≤ k)) (hc : t.ss.length ≤ r ∨ p < (t.ss.getD r sl0).2.1) : slotV t p = -1 := by
  refine slotV_none fun i hi g => ?_
  unfold HasP at g
  have h1 := (hr i hi).1 g.2
  rcases hc with hc | hc
  · omega
  · by_cases e : i = r
    · subst e; omega
    · have h2 := h.od r i (by omega) hi
      have h3 := h.ln r (by omega)
      have := h.pad1
      have := h.grd1
      omega
set_option maxRecDepth 40000 in
set_option maxHeartbeats 4000000 in
theorem slot_at (t : Tb) (a : Ad) (c : Int) (w : World) (hm : TM 0 w t a) (hw : TW t a) (hs : TS a) (hcs : a.sn ≤ a.sc) (ht : Tm t) (hc : 0 ≤ c) (hc2 : c ≤ 1000000) :
    Calls Tryz.prog 107 #[tbV t a, .int .i64 c] w fun e w' => e = .returned (.int .i64 (slotV t (c % t.maj))) ∧ Below w.heap.size w w' := by
  obtain ⟨p, HP⟩ : ∃ p, Hid (c % t.maj = p) := ⟨_, rfl⟩
  obtain ⟨r, hr, HRk⟩ : ∃ r, r ≤ t.ss.length ∧ Hid (∀ k, k < t.ss.length → (p < (t.ss.getD k sl0).2.1 + (t.ss.getD k sl0).2.2 ↔ r ≤ k)) := end_first ht p
  have hL : t.ss.length = a.sn := hw.sl
  rw [hL] at hr
  have hn : a.sn ≤ 1048576 := hs.s
  have HCP : Hid (∀ X, Calls Tryz.prog 87 #[tbV t a, .int .i64 c] X fun e w' => e = .returned (.int .i64 p) ∧ Below X.heap.size X w') := fun X => place_of t a c p X ht.maj1 hc hc2 HP.out
  have HCF : Hid (∀ X B, Below w.heap.size w X → X.cell? ⟨B, 0, none⟩ = some (.int .i64 p) → Calls Tryz.prog 104 #[tbV t a, .func (.func 173) #[] #[.pointer (some ⟨B, 0, none⟩)]] X fun e w' => e = .returned (.int .i64 (r : Int)) ∧ Below X.heap.size X w') := fun X B hX hB =>
    first_slot t a r 173 #[.pointer (some ⟨B, 0, none⟩)] X (hm.below hX).s.seg hn (by have := ht.n1; omega) hcs hr e_sa1 (fun k hk Y hY => by
      have h1 := ht.st k (by omega)
      have h2 := ht.ln k (by omega)
      have h3 := ht.en k (by omega)
      have h4 := ht.pad1
      have h5 := ht.grd1
      have h6 := ht.maj2
      refine (slot_one (t.ss.getD k sl0) p B Y (kept_cell hY hB) ⟨h1, by omega, by omega⟩).mono fun e w' ⟨he, hb⟩ => ⟨he.trans (ret_bool ?_), hb⟩
      exact decide_eq_decide.2 (HRk.out k (by omega)))
  have HSL : Hid (∀ X, Below w.heap.size w X → GSeg 3 X a.sa a.sn (slX t.ss)) := fun X hX => (hm.below hX).s.seg
  have HV1 : Hid (a.sn ≤ r ∨ p < (t.ss.getD r sl0).2.1 → slotV t p = -1) := fun g => slotV_first ht HRk.out (by rw [hL]; exact g)
  have HV2 : Hid (r < a.sn → ¬ p < (t.ss.getD r sl0).2.1 → slotV t p = (r : Int)) := fun g1 g2 => slotV_at ht (by omega) ⟨by omega, (HRk.out r (by omega)).2 (Nat.le_refl _)⟩
  rw [HP.out]
  have HB0 : Hid (Below w.heap.size w (w.alloc (.cells (tbA t a) 33))) := (Below.refl _ _).alloc (Nat.le_refl _) _
  have HX0 : Hid (TBx (w.alloc (.cells (tbA t a) 33)) w.heap.size t a) := TBx.new w t a _ rfl
  clear hm hw hs ht hc hc2 hcs HRk hL
  go_enter Tryz.func107, Tryz.ntmps107
  go_wp2_with (first | (refine wpList_load_row rfl 33 (.tmp 2) rfl w.heap.size rfl 33 (tbA t a) (0, 0) _ HX0.out Tryz.underlying33 rfl (by kernel_rfl) ?_) | fail)
  refine Calls.mono (HCP.out _) ?_
  rintro e w1 ⟨rfl, hb1⟩
  have HB1 : Hid (Below w.heap.size w w1) := HB0.out.trans (hb1.mono HB0.out.size)
  have hbV : Below w1.heap.size w1 (w1.alloc (.cells #[.int .i64 p] 3)) := (Below.refl _ _).alloc (Nat.le_refl _) _
  have HBV : Hid (Below w.heap.size w (w1.alloc (.cells #[.int .i64 p] 3))) := HB1.out.trans (hbV.mono HB1.out.size)
  have HXV : Hid (TBx (w1.alloc (.cells #[.int .i64 p] 3)) w.heap.size t a) := (HX0.out.below hb1).below hbV
  have KV : Hid ((w1.alloc (.cells #[.int .i64 p] 3)).cell? ⟨w1.heap.size, 0, none⟩ = some (.int .i64 p)) := cell0 (CellsAt.new w1 [.int .i64 p] 3 _ rfl) 0 rfl
  clear hb1 hbV HB0 HX0 HB1 HCP
  go_wp2_with (first | (refine wpList_load_row rfl 33 (.tmp 2) rfl w.heap.size rfl 33 (tbA t a) (0, 0) _ HXV.out Tryz.underlying33 rfl (by kernel_rfl) ?_) | fail)
  revert HBV HXV KV
  generalize w1.alloc (.cells #[.int .i64 p] 3) = V1
  generalize w1.heap.size = N1
  intro HBV HXV KV
  refine Calls.mono (HCF.out _ _ HBV.out KV.out) ?_
  rintro e V ⟨rfl, hb2⟩
  have HB2 : Hid (Below w.heap.size w V) := HBV.out.trans (hb2.mono HBV.out.size)
  have k18 : V.cell? ⟨w.heap.size, 18, none⟩ = some (.slice a.sa a.sn a.sc) := (HXV.out.below hb2).cell 18 rfl
  have kp : V.cell? ⟨N1, 0, none⟩ = some (.int .i64 p) := kept_cell hb2 KV.out
  clear hb2 HBV HXV KV HCF
  by_cases hrn : r < a.sn
  rotate_left
  · obtain rfl : r = a.sn := by omega
    have HT : Hid (slotV t p = -1) := HV1.out (.inl (Nat.le_refl _))
    have G18 := fun X => gr_cell (W0 := V) k18 X
    clear HV1 HV2 hrn
    go_wp2
    have hgr := gr_some V
    refine region_alike (by kernel_rfl) (by kernel_rfl) ?_
    repeat (go_big_quiet_step (fail))
    refine wpQuiet_nil ?_
    intro _ hw'
    obtain ⟨X1, rfl⟩ := hw'
    have HBE : Hid (Below w.heap.size w X1.w) := HB2.out.trans (X1.h.mono HB2.out.size)
    generalize X1.w = W2 at HBE ⊢
    clear G18 k18 kp HB2
    go_wp2
    go_ret
    exact ⟨ret_int HT.out.symm, HBE.out⟩
  obtain ⟨b1, o1, hsa, hbl1, p1⟩ := (HSL.out _ HB2.out).at r hrn
  rw [hsa] at k18
  have hrn' : (r : Int) < (a.sn : Int) := by omega
  have hne : ((r : Int) == (a.sn : Int)) = false := by simp; omega
  have hne2 : ¬ ((r : Int) = (a.sn : Int)) := by omega
  have hne3 : ¬ (r = a.sn) := by omega
  simp only [slX] at p1
  generalize t.ss.getD r sl0 = y at p1 HV1 HV2
  obtain ⟨c0, c1, c2⟩ := sl_cells p1
  obtain ⟨x1, x2, x3⟩ := y
  simp only at c0 c1 c2 HV1 HV2
  have G18 := fun X => gr_cell (W0 := V) k18 X
  have Gp := fun X => gr_cell (W0 := V) kp X
  have G1 := fun X => gr_cell (W0 := V) c1 X
  clear p1 hbl1 HSL
  by_cases hlt : p < x2
  · have HT : Hid (slotV t p = -1) := HV1.out (.inr hlt)
    clear HV1 HV2
    go_wp2
    have hgr := gr_some V
    refine region_alike (by kernel_rfl) (by kernel_rfl) ?_
    repeat (go_big_quiet_step (fail))
    refine wpQuiet_nil ?_
    intro _ hw'
    obtain ⟨X1, rfl⟩ := hw'
    have HBE : Hid (Below w.heap.size w X1.w) := HB2.out.trans (X1.h.mono HB2.out.size)
    generalize X1.w = W2 at HBE ⊢
    clear G18 Gp G1 k18 kp c0 c1 c2 HB2
    go_wp2
    go_ret
    exact ⟨ret_int HT.out.symm, HBE.out⟩
  · have HT : Hid (slotV t p = (r : Int)) := HV2.out hrn (by first | exact hlt | omega)
    have hd1 : decide (p < x2) = false := decide_eq_false hlt
    clear HV1 HV2
    go_wp2
    have hgr := gr_some V
    refine region_alike (by kernel_rfl) (by kernel_rfl) ?_
    repeat (first | (go_big_quiet_step (fail)) | (rw [hd1]) | (simp only [hd1]))
    refine wpQuiet_nil ?_
    intro _ hw'
    obtain ⟨X1, rfl⟩ := hw'
    have HBE : Hid (Below w.heap.size w X1.w) := HB2.out.trans (X1.h.mono HB2.out.size)
    generalize X1.w = W2 at HBE ⊢
    clear G18 Gp G1 k18 kp c0 c1 c2 HB2
    go_wp2
    go_ret
    exact ⟨ret_int HT.out.symm, HBE.out⟩
end Go.Proofs.YtlomcdgfcocmmaaGreatDoor
namespace Go.Proofs.YtlomcdgfcocmmaaGreatDoor
open Go.ChangeShapes Go.WideShapes Go.ChangeAt Go.RowKit Go.Deep Go.Joins
set_option linter.unusedVariables false

set_option maxRecDepth 40000 in
set_option maxHeartbeats 4000000 in
theorem run_of (t : Tb) (a : Ad) (x1 x2 x3 : Int) (w : World) (hp : 1 ≤ t.pad ∧ t.pad ≤ 5000) (hg : 1 ≤ t.grd ∧ t.grd ≤ 5000) (hx : 0 ≤ x2 ∧ 0 ≤ x3 ∧ x2 + x3 ≤ 5000) :
    Calls Tryz.prog 78 #[tbV t a, .agg #[.int .i64 x1, .int .i64 x2, .int .i64 x3]] w fun e w' => e = .returned (.tuple #[.int .i64 (x2 + t.pad), .int .i64 (x2 + x3 - t.grd)]) ∧ Below w.heap.size w w' := by
  have HE : Hid (∀ Y, Calls Tryz.prog 65 #[.agg #[.int .i64 x1, .int .i64 x2, .int .i64 x3]] Y fun e w' => e = .returned (.int .i64 (x2 + x3)) ∧ Below Y.heap.size Y w') := fun Y => slot_end x1 x2 x3 Y (by rw [IntKind.wrap_i64]; omega)
  obtain ⟨z, HZ⟩ : ∃ z, Hid (x2 + x3 = z) := ⟨_, rfl⟩
  rw [HZ.out] at HE hx ⊢
  have HB0 : Hid (Below w.heap.size w (w.alloc (.cells (tbA t a) 33))) := (Below.refl _ _).alloc (Nat.le_refl _) _
  have HX0 : Hid (TBx (w.alloc (.cells (tbA t a) 33)) w.heap.size t a) := TBx.new w t a _ rfl
  have hbV : Below (w.alloc (.cells (tbA t a) 33)).heap.size (w.alloc (.cells (tbA t a) 33)) ((w.alloc (.cells (tbA t a) 33)).alloc (.cells #[.int .i64 x1, .int .i64 x2, .int .i64 x3] 42)) := (Below.refl _ _).alloc (Nat.le_refl _) _
  have HBV : Hid (Below w.heap.size w ((w.alloc (.cells (tbA t a) 33)).alloc (.cells #[.int .i64 x1, .int .i64 x2, .int .i64 x3] 42))) := HB0.out.trans (hbV.mono HB0.out.size)
  have k12 : ((w.alloc (.cells (tbA t a) 33)).alloc (.cells #[.int .i64 x1, .int .i64 x2, .int .i64 x3] 42)).cell? ⟨w.heap.size, 12, none⟩ = some (.int .i64 t.pad) := (HX0.out.below hbV).cell 12 rfl
  have k13 : ((w.alloc (.cells (tbA t a) 33)).alloc (.cells #[.int .i64 x1, .int .i64 x2, .int .i64 x3] 42)).cell? ⟨w.heap.size, 13, none⟩ = some (.int .i64 t.grd) := (HX0.out.below hbV).cell 13 rfl
  have K : Hid (CellsAt ((w.alloc (.cells (tbA t a) 33)).alloc (.cells #[.int .i64 x1, .int .i64 x2, .int .i64 x3] 42)) (w.heap.size + 1) 0 [.int .i64 x1, .int .i64 x2, .int .i64 x3]) := CellsAt.new _ [.int .i64 x1, .int .i64 x2, .int .i64 x3] _ (w.heap.size + 1) (by simp)
  have c0 := cell0 K.out 0 rfl
  have c1 := cell0 K.out 1 rfl
  have c2 := cell0 K.out 2 rfl
  have hw1 : IntKind.i64.wrap (x2 + t.pad) = x2 + t.pad := by rw [IntKind.wrap_i64]; have := HZ.out; omega
  have hw2 : IntKind.i64.wrap (z - t.grd) = z - t.grd := by rw [IntKind.wrap_i64]; have := HZ.out; omega
  clear hbV HB0 HX0 K hx hp hg HZ
  go_enter Tryz.func78, Tryz.ntmps78
  go_wp2
  revert HBV k12 k13 c0 c1 c2
  generalize (w.alloc (.cells (tbA t a) 33)).alloc (.cells #[.int .i64 x1, .int .i64 x2, .int .i64 x3] 42) = V
  intro HBV k12 k13 c0 c1 c2
  have G12 := fun Y => gr_cell (W0 := V) k12 Y
  have G13 := fun Y => gr_cell (W0 := V) k13 Y
  have G0 := fun Y => gr_cell (W0 := V) c0 Y
  have G1 := fun Y => gr_cell (W0 := V) c1 Y
  have G2 := fun Y => gr_cell (W0 := V) c2 Y
  have hgr := gr_some V
  refine region_alike (by kernel_rfl) (by kernel_rfl) ?_
  repeat (go_big_quiet_step (first | (go_at_call 65; exact gr_call (HE.out _))))
  refine wpQuiet_nil ?_
  intro _ hw'
  obtain ⟨X1, rfl⟩ := hw'
  have HB2 : Hid (Below w.heap.size w X1.w) := HBV.out.trans (X1.h.mono HBV.out.size)
  generalize X1.w = W2 at HB2 ⊢
  clear G12 G13 G0 G1 G2 HE hgr k12 k13 c0 c1 c2 HBV
  try rw [hw1]
  try rw [hw2]
  go_wp2
  exact bodyPost_ret (v := .tuple #[.int .i64 (x2 + t.pad), .int .i64 (z - t.grd)]) (by simp [results, Tryz.results78, go_sem]) rfl ⟨rfl, HB2.out⟩
set_option maxRecDepth 40000 in
set_option maxHeartbeats 4000000 in
theorem phase_at (t : Tb) (a : Ad) (c : Int) (w : World) (hm : TM 0 w t a) (hw : TW t a) (hs : TS a) (hcs : a.sn ≤ a.sc) (ht : Tm t) (hc : 0 ≤ c) (hc2 : c ≤ 1000000) :
    Calls Tryz.prog 106 #[tbV t a, .int .i64 c] w fun e w' => e = .returned (.int .i64 (phaseV t (c % t.maj))) ∧ Below w.heap.size w w' := by
  have HCP : Hid (∀ X, Calls Tryz.prog 87 #[tbV t a, .int .i64 c] X fun e w' => e = .returned (.int .i64 (c % t.maj)) ∧ Below X.heap.size X w') := fun X => place_of t a c _ X ht.maj1 hc hc2 rfl
  have HCS : Hid (∀ X, Below w.heap.size w X → Calls Tryz.prog 107 #[tbV t a, .int .i64 c] X fun e w' => e = .returned (.int .i64 (slotV t (c % t.maj))) ∧ Below X.heap.size X w') := fun X hX => slot_at t a c X (hm.below hX) hw hs hcs ht hc hc2
  have hL : t.ss.length = a.sn := hw.sl
  have hn : a.sn ≤ 1048576 := hs.s
  have HSL : Hid (∀ X, Below w.heap.size w X → GSeg 3 X a.sa a.sn (slX t.ss)) := fun X hX => (hm.below hX).s.seg
  have HTM : Hid (Tm t) := ht
  have hpp : 0 ≤ c % t.maj ∧ c % t.maj < t.maj := mod_lt ht.maj1
  have hmj : t.maj ≤ 5000 := ht.maj2
  obtain ⟨p, HP⟩ : ∃ p, Hid (c % t.maj = p) := ⟨_, rfl⟩
  rw [HP.out] at HCP HCS hpp ⊢
  have HB0 : Hid (Below w.heap.size w (w.alloc (.cells (tbA t a) 33))) := (Below.refl _ _).alloc (Nat.le_refl _) _
  have HX0 : Hid (TBx (w.alloc (.cells (tbA t a) 33)) w.heap.size t a) := TBx.new w t a _ rfl
  clear hm hw hs ht hc hc2 hcs HP
  obtain ⟨s, HS⟩ : ∃ s, Hid (slotV t p = s) := ⟨_, rfl⟩
  rw [HS.out] at HCS
  obtain ⟨f, HF⟩ : ∃ f, Hid (phaseV t p = f) := ⟨_, rfl⟩
  rw [HF.out]
  have hpt := slotV_cases t p
  rw [HS.out] at hpt
  rcases hpt with ⟨rfl, _⟩ | ⟨i, hi, rfl, hq⟩
  · have HT : Hid (f = 0) := by rw [← HF.out]; exact phaseV_free HS.out
    clear HF HS HSL HTM HCP
    go_enter Tryz.func106, Tryz.ntmps106
    go_wp2_with (first | (refine wpList_load_row rfl 33 (.tmp 2) rfl w.heap.size rfl 33 (tbA t a) (0, 0) _ HX0.out Tryz.underlying33 rfl (by kernel_rfl) ?_) | fail)
    refine Calls.mono (HCS.out _ HB0.out) ?_
    rintro e w1 ⟨rfl, hb1⟩
    have HB1 : Hid (Below w.heap.size w w1) := HB0.out.trans (hb1.mono HB0.out.size)
    clear hb1 HB0 HX0 HCS
    go_wp2
    go_ret
    exact ⟨ret_int HT.out.symm, HB1.out⟩
  have HT0 : Hid (f = (if p - (t.ss.getD i sl0).2.1 < t.pad then 1 else if (t.ss.getD i sl0).2.2 - t.grd ≤ p - (t.ss.getD i sl0).2.1 then 3 else 2)) := by show _ = _; rw [← HF.out]; exact phaseV_at HS.out
  have hx1 := HTM.out.st i hi
  have hx2 := HTM.out.ln i hi
  have hx3 := HTM.out.en i hi
  have hp1 : 1 ≤ t.pad ∧ t.pad ≤ 5000 := ⟨HTM.out.pad1, HTM.out.pad2⟩
  have hg1 : 1 ≤ t.grd ∧ t.grd ≤ 5000 := ⟨HTM.out.grd1, HTM.out.grd2⟩
  have hin : ¬ ((i : Int) < 0) := by omega
  have hi2 : i < a.sn := by omega
  have hi3 : (i : Int) < (a.sn : Int) := by omega
  have HRO : Hid (∀ X, Calls Tryz.prog 78 #[tbV t a, slV (t.ss.getD i sl0)] X fun e w' => e = .returned (.tuple #[.int .i64 ((t.ss.getD i sl0).2.1 + t.pad), .int .i64 ((t.ss.getD i sl0).2.1 + (t.ss.getD i sl0).2.2 - t.grd)]) ∧ Below X.heap.size X w') := fun X => run_of t a _ _ _ X hp1 hg1 ⟨hx1, by omega, by omega⟩
  clear HF HS HTM hq hL
  go_enter Tryz.func106, Tryz.ntmps106
  go_wp2_with (first | (refine wpList_load_row rfl 33 (.tmp 2) rfl w.heap.size rfl 33 (tbA t a) (0, 0) _ HX0.out Tryz.underlying33 rfl (by kernel_rfl) ?_) | fail)
  refine Calls.mono (HCS.out _ HB0.out) ?_
  rintro e V ⟨rfl, hb1⟩
  have HB1 : Hid (Below w.heap.size w V) := HB0.out.trans (hb1.mono HB0.out.size)
  have HX1 : Hid (TBx V w.heap.size t a) := HX0.out.below hb1
  clear hb1 HB0 HX0 HCS
  obtain ⟨b1, o1, hsa, hbl1, p1⟩ := (HSL.out _ HB1.out).at i hi2
  have k18 : V.cell? ⟨w.heap.size, 18, none⟩ = some (.slice (some ⟨b1, o1, none⟩) a.sn a.sc) := by rw [← hsa]; exact HX1.out.cell 18 rfl
  simp only [slX] at p1
  generalize t.ss.getD i sl0 = y at p1 HT0 hx1 hx2 hx3 HRO
  obtain ⟨c0, c1, c2⟩ := sl_cells p1
  obtain ⟨x1, x2, x3⟩ := y
  simp only [slV] at c0 c1 c2 HT0 hx1 hx2 hx3 HRO
  have G18 := fun X => gr_cell (W0 := V) k18 X
  have G0 := fun X => gr_cell (W0 := V) c0 X
  have G1 := fun X => gr_cell (W0 := V) c1 X
  have G2 := fun X => gr_cell (W0 := V) c2 X
  obtain ⟨u, HU⟩ : ∃ u, Hid (x2 + t.pad = u) := ⟨_, rfl⟩
  obtain ⟨v, HV⟩ : ∃ v, Hid (x2 + x3 - t.grd = v) := ⟨_, rfl⟩
  rw [HU.out, HV.out] at HRO
  have HXX : Hid (∀ w', (∃ X : Gr V, w' = X.w) → w'.heap[w.heap.size]? = some (.cells (tbA t a) 33 (0, 0))) := fun w' hX => by
    obtain ⟨X, rfl⟩ := hX
    exact HX1.out.below X.h
  clear p1 hbl1 HSL
  go_wp2
  have hgr := gr_some V
  refine region_alike (by kernel_rfl) (by kernel_rfl) ?_
  repeat (first | (refine wpQuiet_load_row rfl 33 (.tmp 2) rfl w.heap.size rfl 33 (tbA t a) (0, 0) _ HXX.out Tryz.underlying33 rfl (by kernel_rfl) ?_; simp only [Act.put, List.setIfInBounds_toArray, List.set_cons_zero, List.set_cons_succ]) | go_big_quiet_step (first | (go_at_call 78; exact gr_call (HRO.out _))))
  refine wpQuiet_nil ?_
  intro _ hw'
  obtain ⟨X1, rfl⟩ := hw'
  have HB2 : Hid (Below w.heap.size w X1.w) := HB1.out.trans (X1.h.mono HB1.out.size)
  have HX2 : Hid (TBx X1.w w.heap.size t a) := HX1.out.below X1.h
  generalize X1.w = W2 at HB2 HX2 ⊢
  clear G18 G0 G1 G2 HRO hgr HXX k18 c0 c1 c2 HX1 HB1
  go_wp2_with (first | (refine wpList_load_row rfl 33 (.tmp 2) rfl w.heap.size rfl 33 (tbA t a) (0, 0) _ HX2.out Tryz.underlying33 rfl (by kernel_rfl) ?_) | fail)
  refine Calls.mono (HCP.out _) ?_
  rintro e w3 ⟨rfl, hb3⟩
  have HB3 : Hid (Below w.heap.size w w3) := HB2.out.trans (hb3.mono HB2.out.size)
  clear hb3 HB2 HX2 HCP
  by_cases g1 : p < u
  · have HT : Hid (1 = f) := by
      show _ = _
      have := HU.out
      rw [HT0.out, if_pos (by omega)]
    clear HT0 HU HV
    go_wp2
    go_ret
    exact ⟨ret_int HT.out, HB3.out⟩
  by_cases g2 : p < v
  · have HT : Hid (2 = f) := by
      show _ = _
      have := HU.out
      have := HV.out
      rw [HT0.out, if_neg (by omega), if_neg (by omega)]
    clear HT0 HU HV
    go_wp2
    go_ret
    exact ⟨ret_int HT.out, HB3.out⟩
  · have HT : Hid (3 = f) := by
      show _ = _
      have := HU.out
      have := HV.out
      rw [HT0.out, if_neg (by omega), if_pos (by omega)]
    clear HT0 HU HV
    go_wp2
    go_ret
    exact ⟨ret_int HT.out, HB3.out⟩
end Go.Proofs.YtlomcdgfcocmmaaGreatDoor
namespace Go.Proofs.YtlomcdgfcocmmaaGreatDoor
open Go.ChangeShapes Go.WideShapes Go.ChangeAt Go.RowKit Go.Deep Go.Joins
set_option linter.unusedVariables false

set_option maxRecDepth 40000 in
set_option maxHeartbeats 4000000 in
theorem spec_slot (t : Tb) (a : Ad) (c : Int) (w : World) (hm : TM 0 w t a) (hw : TW t a) (hs : TS a) (ht : Tm t) (hc : 0 ≤ c) (hc2 : c ≤ 1000000) :
    Calls Tryz.prog 53 #[tbV t a, .int .i64 c] w fun e w' => e = .returned (.int .i64 (slotV t (c % t.maj))) ∧ Below w.heap.size w w' := by
  have hL : t.ss.length = a.sn := hw.sl
  have hn : a.sn ≤ 1048576 := hs.s
  have HSL : Hid (∀ X, Below w.heap.size w X → GSeg 3 X a.sa a.sn (slX t.ss)) := fun X hX => (hm.below hX).s.seg
  have HTM : Hid (Tm t) := ht
  have hpp : 0 ≤ c % t.maj ∧ c % t.maj < t.maj := mod_lt ht.maj1
  have hmj : t.maj ≤ 5000 := ht.maj2
  have hm0 : ¬ (t.maj = 0) := by have := ht.maj1; omega
  have HB0 : Hid (Below w.heap.size w (w.alloc (.cells (tbA t a) 33))) := (Below.refl _ _).alloc (Nat.le_refl _) _
  have HX0 : Hid (TBx (w.alloc (.cells (tbA t a) 33)) w.heap.size t a) := TBx.new w t a _ rfl
  have k14 : (w.alloc (.cells (tbA t a) 33)).cell? ⟨w.heap.size, 14, none⟩ = some (.int .i64 t.maj) := HX0.out.cell 14 rfl
  have HV : Hid (slotV t (c % t.maj) = slotF t.ss (c % t.maj) a.sn) := by show _ = _; rw [← hL]; rfl
  rw [HV.out]
  obtain ⟨p, HP⟩ : ∃ p, Hid (c % t.maj = p) := ⟨_, rfl⟩
  rw [HP.out] at hpp ⊢
  clear hm hw hs ht HV
  go_enter Tryz.func53, Tryz.ntmps53
  go_wp2
  clear k14
  rw [HP.out]
  have HX1 : Hid (∀ X, Below (w.alloc (.cells (tbA t a) 33)).heap.size (w.alloc (.cells (tbA t a) 33)) X → TBx X w.heap.size t a) := fun X hX => HX0.out.below hX
  revert HB0 HX1
  clear HX0
  generalize w.alloc (.cells (tbA t a) 33) = V0
  intro HB0 HX1
  go_loopw [6] (fun i wr => ∃ m : Nat, m ≤ a.sn ∧ i = .int .i64 m ∧ Hid (slotF t.ss p m = -1 ∧ Below V0.heap.size V0 wr)) (fun i _ => a.sn - (intOf i).toNat)
  case atStart => exact ⟨0, by omega, rfl, rfl, Below.refl _ _⟩
  case round =>
    obtain ⟨m, hm, rfl, HR⟩ := hrel
    have HBR : Hid (Below w.heap.size w wr) := HB0.out.trans (HR.out.2.mono HB0.out.size)
    have HXR : Hid (TBx wr w.heap.size t a) := HX1.out _ HR.out.2
    by_cases hmn : m < a.sn
    rotate_left
    · obtain rfl : m = a.sn := by omega
      have HT : Hid (-1 = slotF t.ss p a.sn) := HR.out.1.symm
      have k18 : wr.cell? ⟨w.heap.size, 18, none⟩ = some (.slice a.sa a.sn a.sc) := HXR.out.cell 18 rfl
      clear HR HXR HX1
      go_wp2
      go_ret
      exact ⟨ret_int HT.out, HBR.out⟩
    have hmn' : (m : Int) < (a.sn : Int) := by omega
    have k14 : wr.cell? ⟨w.heap.size, 14, none⟩ = some (.int .i64 t.maj) := HXR.out.cell 14 rfl
    obtain ⟨b1, o1, hsa, hbl1, p1⟩ := (HSL.out _ HBR.out).at m hmn
    have k18 : wr.cell? ⟨w.heap.size, 18, none⟩ = some (.slice (some ⟨b1, o1, none⟩) a.sn a.sc) := by rw [← hsa]; exact HXR.out.cell 18 rfl
    have hx1 := HTM.out.st m (by omega)
    have hx2 := HTM.out.ln m (by omega)
    have hx3 := HTM.out.en m (by omega)
    have hq1 := HTM.out.pad1
    have hq2 := HTM.out.grd1
    have HY : Hid (HasP (t.ss.getD m sl0) p → (m : Int) = slotF t.ss p a.sn) := fun h => (slotF_yes HR.out.1 h hmn).symm
    have HNO : Hid (¬ HasP (t.ss.getD m sl0) p → slotF t.ss p (m + 1) = -1) := fun h => slotF_no HR.out.1 h
    simp only [slX] at p1
    generalize t.ss.getD m sl0 = y at p1 hx1 hx2 hx3 HY HNO
    obtain ⟨c0, c1, c2⟩ := sl_cells p1
    obtain ⟨x1, x2, x3⟩ := y
    simp only at c0 c1 c2 hx1 hx2 hx3
    have hw1 : IntKind.i64.wrap (x2 + x3) = x2 + x3 := by rw [IntKind.wrap_i64]; omega
    have G18 := fun X => gr_cell (W0 := wr) k18 X
    have G14 := fun X => gr_cell (W0 := wr) k14 X
    have G0 := fun X => gr_cell (W0 := wr) c0 X
    have G1 := fun X => gr_cell (W0 := wr) c1 X
    have G2 := fun X => gr_cell (W0 := wr) c2 X
    clear p1 hbl1
    have HRB : Hid (Below V0.heap.size V0 wr) := HR.out.2
    have HBX : Hid (∀ X, Below wr.heap.size wr X → Below V0.heap.size V0 X) := fun X hX => HRB.out.trans (hX.mono HRB.out.size)
    clear HR
    by_cases h1 : x2 ≤ p
    · by_cases h2 : p < x2 + x3
      · have HT : Hid ((m : Int) = slotF t.ss p a.sn) := HY.out ⟨h1, h2⟩
        clear HY HNO
        go_wp2
        have hgr := gr_some wr
        refine region_alike (by kernel_rfl) (by kernel_rfl) ?_
        repeat (go_big_quiet_step (fail))
        refine wpQuiet_nil ?_
        intro _ hw'
        obtain ⟨X1, rfl⟩ := hw'
        have HBE : Hid (Below w.heap.size w X1.w) := HBR.out.trans (X1.h.mono HBR.out.size)
        generalize X1.w = W2 at HBE ⊢
        clear hgr G18 G14 G0 G1 G2 HBX
        go_wp2
        go_ret
        exact ⟨ret_int HT.out, HBE.out⟩
      · have HT : Hid (slotF t.ss p (m + 1) = -1) := HNO.out (fun g => h2 g.2)
        have hd1 : decide (p < x2 + x3) = false := decide_eq_false h2
        clear HY HNO
        go_wp2
        have hgr := gr_some wr
        refine region_alike (by kernel_rfl) (by kernel_rfl) ?_
        repeat (first | (go_big_quiet_step (fail)) | (rw [hd1]) | (simp only [hd1]))
        refine wpQuiet_nil ?_
        intro _ hw'
        obtain ⟨X1, rfl⟩ := hw'
        have HBE : Hid (Below V0.heap.size V0 X1.w) := HBX.out _ X1.h
        generalize X1.w = W2 at HBE ⊢
        clear hgr G18 G14 G0 G1 G2 HBX k18 k14 c0 c1 c2
        go_wp2
        go_roundw
        case rel => exact ⟨m + 1, by omega, by go_num, HT.out, HBE.out⟩
        case measure => simp [intOf]; omega
    · have HT : Hid (slotF t.ss p (m + 1) = -1) := HNO.out (fun g => h1 g.1)
      have hd1 : decide (x2 ≤ p) = false := decide_eq_false h1
      clear HY HNO
      go_wp2
      have hgr := gr_some wr
      refine region_alike (by kernel_rfl) (by kernel_rfl) ?_
      repeat (first | (go_big_quiet_step (fail)) | (rw [hd1]) | (simp only [hd1]))
      refine wpQuiet_nil ?_
      intro _ hw'
      obtain ⟨X1, rfl⟩ := hw'
      have HBE : Hid (Below V0.heap.size V0 X1.w) := HBX.out _ X1.h
      generalize X1.w = W2 at HBE ⊢
      clear hgr G18 G14 G0 G1 G2 HBX k18 k14 c0 c1 c2
      go_wp2
      go_roundw
      case rel => exact ⟨m + 1, by omega, by go_num, HT.out, HBE.out⟩
      case measure => simp [intOf]; omega
set_option maxRecDepth 40000 in
set_option maxHeartbeats 4000000 in
theorem spec_phase (t : Tb) (a : Ad) (c : Int) (w : World) (hm : TM 0 w t a) (hw : TW t a) (hs : TS a) (ht : Tm t) (hc : 0 ≤ c) (hc2 : c ≤ 1000000) :
    Calls Tryz.prog 84 #[tbV t a, .int .i64 c] w fun e w' => e = .returned (.int .i64 (phaseV t (c % t.maj))) ∧ Below w.heap.size w w' := by
  have hL : t.ss.length = a.sn := hw.sl
  have hn : a.sn ≤ 1048576 := hs.s
  have HSL : Hid (∀ X, Below w.heap.size w X → GSeg 3 X a.sa a.sn (slX t.ss)) := fun X hX => (hm.below hX).s.seg
  have HTM : Hid (Tm t) := ht
  have hpp : 0 ≤ c % t.maj ∧ c % t.maj < t.maj := mod_lt ht.maj1
  have hmj : t.maj ≤ 5000 := ht.maj2
  have hm0 : ¬ (t.maj = 0) := by have := ht.maj1; omega
  have HCS : Hid (∀ X, Below w.heap.size w X → Calls Tryz.prog 53 #[tbV t a, .int .i64 c] X fun e w' => e = .returned (.int .i64 (slotV t (c % t.maj))) ∧ Below X.heap.size X w') := fun X hX => spec_slot t a c X (hm.below hX) hw hs ht hc hc2
  have HB0 : Hid (Below w.heap.size w (w.alloc (.cells (tbA t a) 33))) := (Below.refl _ _).alloc (Nat.le_refl _) _
  have HX0 : Hid (TBx (w.alloc (.cells (tbA t a) 33)) w.heap.size t a) := TBx.new w t a _ rfl
  clear hm hw hs ht
  obtain ⟨s, HS⟩ : ∃ s, Hid (slotV t (c % t.maj) = s) := ⟨_, rfl⟩
  rw [HS.out] at HCS
  obtain ⟨f, HF⟩ : ∃ f, Hid (phaseV t (c % t.maj) = f) := ⟨_, rfl⟩
  rw [HF.out]
  have hpt := slotV_cases t (c % t.maj)
  rw [HS.out] at hpt
  rcases hpt with ⟨rfl, _⟩ | ⟨i, hi, rfl, hq⟩
  · have HT : Hid (f = 0) := by rw [← HF.out]; exact phaseV_free HS.out
    clear HF HS HSL HTM
    go_enter Tryz.func84, Tryz.ntmps84
    go_wp2_with (first | (refine wpList_load_row rfl 33 (.tmp 2) rfl w.heap.size rfl 33 (tbA t a) (0, 0) _ HX0.out Tryz.underlying33 rfl (by kernel_rfl) ?_) | fail)
    refine Calls.mono (HCS.out _ HB0.out) ?_
    rintro e w1 ⟨rfl, hb1⟩
    have HB1 : Hid (Below w.heap.size w w1) := HB0.out.trans (hb1.mono HB0.out.size)
    clear hb1 HB0 HX0 HCS
    go_wp2
    go_ret
    exact ⟨ret_int HT.out.symm, HB1.out⟩
  have HT0 : Hid (f = (if c % t.maj - (t.ss.getD i sl0).2.1 < t.pad then 1 else if (t.ss.getD i sl0).2.2 - t.grd ≤ c % t.maj - (t.ss.getD i sl0).2.1 then 3 else 2)) := by show _ = _; rw [← HF.out]; exact phaseV_at HS.out
  have hx1 := HTM.out.st i hi
  have hx2 := HTM.out.ln i hi
  have hx3 := HTM.out.en i hi
  have hp1 : 1 ≤ t.pad ∧ t.pad ≤ 5000 := ⟨HTM.out.pad1, HTM.out.pad2⟩
  have hg1 : 1 ≤ t.grd ∧ t.grd ≤ 5000 := ⟨HTM.out.grd1, HTM.out.grd2⟩
  have hin : ¬ ((i : Int) < 0) := by omega
  have hi2 : i < a.sn := by omega
  have hi3 : (i : Int) < (a.sn : Int) := by omega
  clear HF HS HTM hq hL
  go_enter Tryz.func84, Tryz.ntmps84
  go_wp2_with (first | (refine wpList_load_row rfl 33 (.tmp 2) rfl w.heap.size rfl 33 (tbA t a) (0, 0) _ HX0.out Tryz.underlying33 rfl (by kernel_rfl) ?_) | fail)
  refine Calls.mono (HCS.out _ HB0.out) ?_
  rintro e V ⟨rfl, hb1⟩
  have HB1 : Hid (Below w.heap.size w V) := HB0.out.trans (hb1.mono HB0.out.size)
  have HX1 : Hid (∀ X, Below V.heap.size V X → TBx X w.heap.size t a) := fun X hX => (HX0.out.below hb1).below hX
  clear hb1 HB0 HX0 HCS
  obtain ⟨b1, o1, hsa, hbl1, p1⟩ := (HSL.out _ HB1.out).at i hi2
  have k18 : V.cell? ⟨w.heap.size, 18, none⟩ = some (.slice (some ⟨b1, o1, none⟩) a.sn a.sc) := by rw [← hsa]; exact (HX1.out _ (Below.refl _ _)).cell 18 rfl
  have k14 : V.cell? ⟨w.heap.size, 14, none⟩ = some (.int .i64 t.maj) := (HX1.out _ (Below.refl _ _)).cell 14 rfl
  have HKD : Hid (∀ X, Below V.heap.size V X → X.cell? ⟨w.heap.size, 18, none⟩ = some (.slice (some ⟨b1, o1, none⟩) a.sn a.sc) ∧ X.cell? ⟨w.heap.size, 12, none⟩ = some (.int .i64 t.pad) ∧ X.cell? ⟨w.heap.size, 13, none⟩ = some (.int .i64 t.grd)) := fun X hX => ⟨by rw [← hsa]; exact (HX1.out _ hX).cell 18 rfl, (HX1.out _ hX).cell 12 rfl, (HX1.out _ hX).cell 13 rfl⟩
  simp only [slX] at p1
  generalize t.ss.getD i sl0 = y at p1 HT0 hx1 hx2 hx3
  obtain ⟨c0, c1, c2⟩ := sl_cells p1
  obtain ⟨x1, x2, x3⟩ := y
  simp only at c0 c1 c2 HT0 hx1 hx2 hx3
  have G18 := fun X => gr_cell (W0 := V) k18 X
  have G14 := fun X => gr_cell (W0 := V) k14 X
  have G1 := fun X => gr_cell (W0 := V) c1 X
  have HK2 : Hid (∀ X, Below V.heap.size V X → X.cell? ⟨b1, o1 + i * 3 + 2, none⟩ = some (.int .i64 x3)) := fun X hX => kept_cell hX c2
  have hwp : IntKind.i64.wrap (c % t.maj - x2) = c % t.maj - x2 := by rw [IntKind.wrap_i64]; omega
  clear p1 hbl1 HSL HX1
  go_wp2
  have hgr := gr_some V
  refine region_alike (by kernel_rfl) (by kernel_rfl) ?_
  repeat (go_big_quiet_step (fail))
  refine wpQuiet_nil ?_
  intro _ hw'
  obtain ⟨X1, rfl⟩ := hw'
  have HB2 : Hid (Below w.heap.size w X1.w) := HB1.out.trans (X1.h.mono HB1.out.size)
  have k18 := (HKD.out _ X1.h).1
  have k12 := (HKD.out _ X1.h).2.1
  have k13 := (HKD.out _ X1.h).2.2
  have c2 := HK2.out _ X1.h
  generalize X1.w = W2 at HB2 k18 k12 k13 c2 ⊢
  try rw [hwp]
  obtain ⟨d, HD⟩ : ∃ d, Hid (c % t.maj - x2 = d) := ⟨_, rfl⟩
  have hd1 : -5000 ≤ d ∧ d ≤ 5000 := by have := HD.out; omega
  rw [HD.out] at HT0 ⊢
  have hw2 : IntKind.i64.wrap (x3 - t.grd) = x3 - t.grd := by rw [IntKind.wrap_i64]; omega
  clear hgr G18 G14 G1 HKD HK2 hwp HD k14 c0 c1 hpp
  by_cases g1 : d < t.pad
  · have HT : Hid (1 = f) := by
      show _ = _
      rw [HT0.out, if_pos g1]
    clear HT0
    go_wp2
    go_ret
    exact ⟨ret_int HT.out, HB2.out⟩
  obtain ⟨z, HZ⟩ : ∃ z, Hid (x3 - t.grd = z) := ⟨_, rfl⟩
  have Gk18 := fun X => gr_cell (W0 := W2) k18 X
  have Gk13 := fun X => gr_cell (W0 := W2) k13 X
  have Gc2 := fun X => gr_cell (W0 := W2) c2 X
  by_cases g2 : x3 - t.grd ≤ d
  · have HT : Hid (3 = f) := by
      show _ = _
      rw [HT0.out, if_neg g1, if_pos g2]
    clear HT0
    go_wp2
    have hgr := gr_some W2
    refine region_alike (by kernel_rfl) (by kernel_rfl) ?_
    repeat (go_big_quiet_step (fail))
    refine wpQuiet_nil ?_
    intro _ hw'
    obtain ⟨X1, rfl⟩ := hw'
    have HB3 : Hid (Below w.heap.size w X1.w) := HB2.out.trans (X1.h.mono HB2.out.size)
    generalize X1.w = W3 at HB3 ⊢
    clear Gk18 Gk13 Gc2 hgr k18 k12 k13 c2
    go_wp2
    go_ret
    exact ⟨ret_int HT.out, HB3.out⟩
  · have HT : Hid (2 = f) := by
      show _ = _
      rw [HT0.out, if_neg g1, if_neg g2]
    have hd2 : decide (x3 - t.grd ≤ d) = false := decide_eq_false g2
    clear HT0
    go_wp2
    have hgr := gr_some W2
    refine region_alike (by kernel_rfl) (by kernel_rfl) ?_
    repeat (first | (go_big_quiet_step (fail)) | (rw [hd2]) | (simp only [hd2]))
    refine wpQuiet_nil ?_
    intro _ hw'
    obtain ⟨X1, rfl⟩ := hw'
    have HB3 : Hid (Below w.heap.size w X1.w) := HB2.out.trans (X1.h.mono HB2.out.size)
    generalize X1.w = W3 at HB3 ⊢
    clear Gk18 Gk13 Gc2 hgr k18 k12 k13 c2
    go_wp2
    go_ret
    exact ⟨ret_int HT.out, HB3.out⟩
end Go.Proofs.YtlomcdgfcocmmaaGreatDoor
namespace Go.Proofs.YtlomcdgfcocmmaaGreatDoor
open Go.ChangeShapes Go.WideShapes Go.ChangeAt Go.RowKit Go.Deep Go.Joins
set_option linter.unusedVariables false

set_option maxRecDepth 40000 in
set_option maxHeartbeats 4000000 in
theorem index_int (A : Option Addr) (cap n : Nat) (zs : List Int) (v : Int) (w : World) (hz : GSeg 1 w A n (inX zs)) (hn : n ≤ 1048576) :
    Calls Tryz.prog 188 #[.slice A n cap, .int .i64 v] w fun e w' => (∃ r : Int, e = .returned (.int .i64 r) ∧ ((r = -1 ∧ ∀ i, i < n → zs.getD i 0 ≠ v) ∨ ∃ i : Nat, i < n ∧ r = (i : Int) ∧ zs.getD i 0 = v)) ∧ w' = w := by
  have HS : Hid (GSeg 1 w A n (inX zs)) := hz
  clear hz
  go_enter Tryz.func188, Tryz.ntmps188
  go_wp2
  go_loopw [8] (fun i wr => ∃ m : Nat, m ≤ n ∧ i = .int .i64 m ∧ Hid (wr = w ∧ ∀ j, j < m → zs.getD j 0 ≠ v)) (fun i _ => n - (intOf i).toNat)
  case atStart => exact ⟨0, by omega, rfl, rfl, fun i hi => absurd hi (by omega)⟩
  case round =>
    obtain ⟨m, hm, rfl, HR⟩ := hrel
    have HW : Hid (wr = w) := HR.out.1
    by_cases hmn : m < n
    rotate_left
    · obtain rfl : m = n := by omega
      have HT : Hid (∀ j, j < m → zs.getD j 0 ≠ v) := HR.out.2
      clear HR
      go_wp2
      go_ret
      exact ⟨⟨_, rfl, .inl ⟨rfl, HT.out⟩⟩, HW.out⟩
    have hmn' : (m : Int) < (n : Int) := by omega
    have HS2 : GSeg 1 wr A n (inX zs) := by rw [HW.out]; exact HS.out
    obtain ⟨b1, o1, rfl, hbl1, p1⟩ := HS2.at m hmn
    rw [Nat.mul_one] at p1
    have c0 := in_cell p1
    have HY : Hid (zs.getD m 0 = v → ∃ i : Nat, i < n ∧ (m : Int) = (i : Int) ∧ zs.getD i 0 = v) := fun h => ⟨m, hmn, rfl, h⟩
    have HNO : Hid (¬ zs.getD m 0 = v → ∀ j, j < m + 1 → zs.getD j 0 ≠ v) := fun h j hj => by
      by_cases e : j = m
      · subst e; exact h
      · exact HR.out.2 j (by omega)
    obtain ⟨z, HZ⟩ : ∃ z, Hid (zs.getD m 0 = z) := ⟨_, rfl⟩
    rw [HZ.out] at c0
    clear p1 hbl1 HR HS2
    by_cases hzv : z = v
    · have HT : Hid _ := HY.out (HZ.out.trans hzv)
      subst hzv
      clear HY HNO HZ
      go_wp2
      go_ret
      exact ⟨⟨_, rfl, .inr HT.out⟩, HW.out⟩
    · have HT : Hid _ := HNO.out (fun h => hzv (HZ.out.symm.trans h))
      have hb : (v == z) = false := by simp; exact fun h => hzv h.symm
      have hb2 : ¬ (v = z) := fun h => hzv h.symm
      clear HY HNO HZ
      go_wp2
      go_roundw
      case rel => exact ⟨m + 1, by omega, by go_num, HW.out, HT.out⟩
      case measure => simp [intOf]; omega
set_option maxRecDepth 40000 in
set_option maxHeartbeats 4000000 in
theorem contains_int (A : Option Addr) (cap n : Nat) (zs : List Int) (v : Int) (q : Bool) (w : World) (hz : GSeg 1 w A n (inX zs)) (hn : n ≤ 1048576) (hq : q = true ↔ ∃ i, i < n ∧ zs.getD i 0 = v) :
    Calls Tryz.prog 175 #[.slice A n cap, .int .i64 v] w fun e w' => e = .returned (.bool q) ∧ w' = w := by
  have HC : Hid _ := index_int A cap n zs v w hz hn
  have HQ : Hid (q = true ↔ ∃ i, i < n ∧ zs.getD i 0 = v) := hq
  clear hz hn hq
  go_enter Tryz.func175, Tryz.ntmps175
  go_wp2_with fail
  refine Calls.mono HC.out ?_
  rintro e w1 ⟨⟨r, rfl, hr⟩, hw1⟩
  have HW : Hid (w1 = w) := hw1
  clear hw1 HC
  rcases hr with ⟨rfl, hno⟩ | ⟨i, hi, rfl, he⟩
  · have HT : Hid (q = false) := not_true HQ.out (fun ⟨i, hi, g⟩ => hno i hi g)
    clear HQ hno
    go_wp2
    go_ret
    exact ⟨ret_bool HT.out.symm, HW.out⟩
  · have HT : Hid (q = true) := HQ.out.2 ⟨i, hi, he⟩
    clear HQ he
    have h0 : 0 ≤ (i : Int) := by omega
    go_wp2
    go_ret
    exact ⟨ret_bool HT.out.symm, HW.out⟩
end Go.Proofs.YtlomcdgfcocmmaaGreatDoor
namespace Go.Proofs.YtlomcdgfcocmmaaGreatDoor
open Go.ChangeShapes Go.WideShapes Go.ChangeAt Go.RowKit Go.Deep Go.Joins
set_option linter.unusedVariables false

end Go.Proofs.YtlomcdgfcocmmaaGreatDoor
namespace Go.Proofs.YtlomcdgfcocmmaaGreatDoor
open Go.ChangeShapes Go.WideShapes Go.ChangeAt Go.RowKit Go.Deep Go.Joins
set_option linter.unusedVariables false

theorem start_first {t : Tb} (h : Tm t) (p : Int) : ∃ r, r ≤ t.ss.length ∧ ∀ k, k < t.ss.length → (p ≤ (t.ss.getD k sl0).2.1 ↔ r ≤ k) :=
  first_ex _ _ (fun i j hi hj g => by
    have h1 := h.od i j hi hj
    have h2 := h.ln i (by omega)
    have := h.pad1
    have := h.grd1
    omega)
theorem st_lt {t : Tb} (h : Tm t) {i : Nat} (hi : i < t.ss.length) : (t.ss.getD i sl0).2.1 < t.maj := by
  have h1 := h.en i hi
  have h2 := h.ln i hi
  have := h.pad1
  have := h.grd1
  omega
theorem st_le {t : Tb} (h : Tm t) {i j : Nat} (hij : i ≤ j) (hj : j < t.ss.length) : (t.ss.getD i sl0).2.1 ≤ (t.ss.getD j sl0).2.1 := by
  by_cases e : i = j
  · subst e; exact Int.le_refl _
  · have h1 := h.od i j (by omega) hj
    have h2 := h.ln i (by omega)
    have := h.pad1
    have := h.grd1
    omega
/-- A cycle at a place of a frame that begins at a border. -/
theorem place_border {m b x : Int} (hm : 1 ≤ m) (hb : b % m = 0) (h0 : 0 ≤ x) (h1 : x < m) : (b + x) % m = x := by
  rw [Int.add_emod, hb, Int.zero_add, Int.emod_emod_of_dvd _ (Int.dvd_refl _)]
  exact Int.emod_eq_of_lt h0 h1
theorem border_mod {m c : Int} : (c - c % m) % m = 0 := by
  rw [Int.sub_emod, Int.emod_emod_of_dvd _ (Int.dvd_refl _), Int.sub_self, Int.zero_emod]
/-- The next turn: slot i begins at r, the least such cycle not before c. -/
def TN (t : Tb) (c : Int) (i : Nat) (r : Int) : Prop := i < t.ss.length ∧ (t.ss.getD i sl0).2.1 = r % t.maj ∧ NX t c r ∧ r ≤ c + t.maj
theorem next_here {t : Tb} (h : Tm t) {c : Int} {i : Nat} (hi : i < t.ss.length) (hr : ∀ k, k < t.ss.length → (c % t.maj ≤ (t.ss.getD k sl0).2.1 ↔ i ≤ k)) : TN t c i (c - c % t.maj + (t.ss.getD i sl0).2.1) := by
  have hm := h.maj1
  have hp := mod_lt (c := c) hm
  have hb := border_mod (m := t.maj) (c := c)
  have h0 := h.st i hi
  have h1 := st_lt h hi
  have e := place_border hm hb h0 h1
  have g := (hr i hi).2 (Nat.le_refl _)
  refine ⟨hi, e.symm, ⟨by omega, ⟨i, hi, e.symm⟩, fun d hd hdr j hj he => ?_⟩, by omega⟩
  have e2 : d % t.maj = d - (c - c % t.maj) := by
    have := place_border (x := d - (c - c % t.maj)) hm hb (by omega) (by omega)
    rw [show c - c % t.maj + (d - (c - c % t.maj)) = d by omega] at this
    exact this
  have g2 := (hr j hj).1 (by omega)
  have := st_le h g2 hj
  omega
theorem next_later {t : Tb} (h : Tm t) {c : Int} (hr : ∀ k, k < t.ss.length → ¬ c % t.maj ≤ (t.ss.getD k sl0).2.1) : TN t c 0 (c - c % t.maj + t.maj + (t.ss.getD 0 sl0).2.1) := by
  have hm := h.maj1
  have hp := mod_lt (c := c) hm
  have hn := h.n1
  have hb : (c - c % t.maj + t.maj) % t.maj = 0 := by rw [Int.add_emod_right]; exact border_mod
  have h0 := h.st 0 (by omega)
  have h1 := st_lt h (i := 0) (by omega)
  have e := place_border hm hb h0 h1
  have g0 := hr 0 (by omega)
  refine ⟨by omega, e.symm, ⟨by omega, ⟨0, by omega, e.symm⟩, fun d hd hdr j hj he => ?_⟩, by omega⟩
  have gj := hr j hj
  by_cases q : d < c - c % t.maj + t.maj
  · have e2 : d % t.maj = d - (c - c % t.maj) := by
      have := place_border (x := d - (c - c % t.maj)) hm (border_mod (c := c)) (by omega) (by omega)
      rw [show c - c % t.maj + (d - (c - c % t.maj)) = d by omega] at this
      exact this
    omega
  · have e2 : d % t.maj = d - (c - c % t.maj + t.maj) := by
      have := place_border (x := d - (c - c % t.maj + t.maj)) hm hb (by omega) (by omega)
      rw [show c - c % t.maj + t.maj + (d - (c - c % t.maj + t.maj)) = d by omega] at this
      exact this
    have := st_le h (Nat.zero_le j) hj
    omega
theorem TBx.low {X X' : World} {B n : Nat} {t : Tb} {a : Ad} (h : TBx X B t a) (hb : Below n X X') (hB : B < n) : TBx X' B t a := by
  unfold TBx at h ⊢
  rw [hb.block B hB]; exact h
theorem Bk.low {w w' : World} {b B : Nat} {cs : Array Value} (h : Bk w b cs) (hb : Below B w w') (hlt : b < B) : Bk w' b cs :=
  ⟨Nat.lt_of_lt_of_le h.lt hb.size, fun i v e => (hb.cell (p := ⟨b, i, none⟩) hlt).trans (h.cell i v e), fun i => (hb.frozen (p := ⟨b, i, none⟩) hlt).trans (h.free i)⟩
end Go.Proofs.YtlomcdgfcocmmaaGreatDoor
namespace Go.Proofs.YtlomcdgfcocmmaaGreatDoor
open Go.ChangeShapes Go.WideShapes Go.ChangeAt Go.RowKit Go.Deep Go.Joins
set_option linter.unusedVariables false

/-- A block that holds a slot. -/
def SRow (X : World) (B : Nat) (cs : Array Value) : Prop := X.heap[B]? = some (.cells cs 42 (0, 0))
theorem SRow.lt {X : World} {B : Nat} {cs : Array Value} (h : SRow X B cs) : B < X.heap.size := by
  rcases Nat.lt_or_ge B X.heap.size with g | g
  · exact g
  · unfold SRow at h; rw [Array.getElem?_eq_none g] at h; cases h
theorem SRow.below {X X' : World} {B : Nat} {cs : Array Value} (h : SRow X B cs) (hb : Below X.heap.size X X') : SRow X' B cs := by
  have := h.lt
  unfold SRow at h ⊢
  rw [hb.block B this]; exact h
theorem SRow.low {X X' : World} {B n : Nat} {cs : Array Value} (h : SRow X B cs) (hb : Below n X X') (hB : B < n) : SRow X' B cs := by
  unfold SRow at h ⊢
  rw [hb.block B hB]; exact h
theorem Bk.set0 {V : World} {N : Nat} {u : Value} (h : Bk V N #[u]) (v : Value) : Bk (V.setCell ⟨N, 0, none⟩ v) N #[v] := by
  have hc : V.cell? ⟨N, 0, none⟩ = some u := h.cell 0 u rfl
  refine ⟨by simpa using h.lt, fun i x hx => ?_, fun i => by simpa using h.free i⟩
  cases i with
  | zero =>
    obtain rfl : v = x := by simpa using hx
    exact World.cell?_setCell_same _ _ _ hc
  | succ i => simp at hx
theorem srow_new (w : World) (cs : Array Value) (B : Nat) (hB : B = w.heap.size) : SRow (w.alloc (.cells cs 42)) B cs := by
  subst hB
  show (w.heap.push _)[w.heap.size]? = _
  simp
theorem res_slot {W : World} {B : Nat} {x y z : Value} {tmps : Array Value} (h : W.heap[B]? = some (.cells #[x, y, z] 42 (0, 0))) (ht : tmps[4]? = some (.pointer (some ⟨B, 0, none⟩))) : (results Tryz.f79 tmps).run Tryz.prog W = .ok (.agg #[x, y, z]) W := by
  have hld : (loadVar 42 ⟨B, 0, none⟩).run Tryz.prog W = .ok (.agg #[x, y, z]) W := run_loadVar_row (P := Tryz.prog) W B 42 42 #[x, y, z] (0, 0) _ h Tryz.underlying42 rfl (by kernel_rfl)
  unfold results
  rw [Tryz.results79]
  simp [ht, asAddr, hld]
set_option maxRecDepth 40000 in
set_option maxHeartbeats 4000000 in
theorem next_turn (t : Tb) (a : Ad) (c : Int) (w : World) (hm : TM 0 w t a) (hw : TW t a) (hs : TS a) (hcs : a.sn ≤ a.sc) (ht : Tm t) (hc : 0 ≤ c) (hc2 : c ≤ 1000000) :
    Calls Tryz.prog 79 #[tbV t a, .int .i64 c] w fun e w' => (∃ (i : Nat) (r : Int), e = .returned (.agg #[.int .i64 (t.ss.getD i sl0).1, .int .i64 r, .int .i64 (t.ss.getD i sl0).2.2]) ∧ TN t c i r) ∧ Below w.heap.size w w' := by
  have HNH : Hid (∀ i, i < t.ss.length → (∀ k, k < t.ss.length → (c % t.maj ≤ (t.ss.getD k sl0).2.1 ↔ i ≤ k)) → TN t c i (c - c % t.maj + (t.ss.getD i sl0).2.1)) := fun i hi hr => next_here ht hi hr
  have HNL : Hid ((∀ k, k < t.ss.length → (t.ss.getD k sl0).2.1 < c % t.maj) → TN t c 0 (c - c % t.maj + t.maj + (t.ss.getD 0 sl0).2.1)) := fun hr => next_later ht (fun k hk => by have := hr k hk; omega)
  have hpp : 0 ≤ c % t.maj ∧ c % t.maj < t.maj := mod_lt ht.maj1
  have hmj : t.maj ≤ 5000 := ht.maj2
  have HF0 : Hid (∃ r, r ≤ t.ss.length ∧ ∀ k, k < t.ss.length → (c % t.maj ≤ (t.ss.getD k sl0).2.1 ↔ r ≤ k)) := start_first ht _
  have hpl : c % t.maj ≤ c := by
    by_cases g : c < t.maj
    · rw [Int.emod_eq_of_lt hc g]; exact Int.le_refl _
    · omega
  have HCP : Hid (∀ X, Calls Tryz.prog 87 #[tbV t a, .int .i64 c] X fun e w' => e = .returned (.int .i64 (c % t.maj)) ∧ Below X.heap.size X w') := fun X => place_of t a c _ X ht.maj1 hc hc2 rfl
  obtain ⟨p, HP⟩ : ∃ p, Hid (c % t.maj = p) := ⟨_, rfl⟩
  rw [HP.out] at HNH HNL hpp HF0 HCP hpl
  obtain ⟨r, hr, HRK⟩ : ∃ r, r ≤ t.ss.length ∧ Hid (∀ k, k < t.ss.length → (p ≤ (t.ss.getD k sl0).2.1 ↔ r ≤ k)) := HF0.out
  have hL : t.ss.length = a.sn := hw.sl
  have hn : a.sn ≤ 1048576 := hs.s
  have HTM : Hid (Tm t) := ht
  have HSL : Hid (∀ X, Below w.heap.size w X → GSeg 3 X a.sa a.sn (slX t.ss)) := fun X hX => (hm.below hX).s.seg
  have HCF : Hid (∀ X B (v : Int) (s : Nat), Below w.heap.size w X → X.cell? ⟨B, 0, none⟩ = some (.int .i64 v) → s ≤ t.ss.length → (∀ k, k < t.ss.length → (v ≤ (t.ss.getD k sl0).2.1 ↔ s ≤ k)) → Calls Tryz.prog 104 #[tbV t a, .func (.func 105) #[] #[.pointer (some ⟨B, 0, none⟩)]] X fun e w' => e = .returned (.int .i64 (s : Int)) ∧ Below X.heap.size X w') := fun X B v s hX hB hs1 hs2 =>
    first_slot t a s 105 #[.pointer (some ⟨B, 0, none⟩)] X (hm.below hX).s.seg hn (by have := ht.n1; omega) hcs (by omega) e_nt1 (fun k hk Y hY =>
      (next_one (t.ss.getD k sl0) v B Y (kept_cell hY hB)).mono fun e w' ⟨he, hb⟩ => ⟨he.trans (ret_bool (decide_eq_decide.2 (hs2 k (by omega)))), hb⟩)
  have HB0 : Hid (Below w.heap.size w (w.alloc (.cells (tbA t a) 33))) := (Below.refl _ _).alloc (Nat.le_refl _) _
  have HX0 : Hid (TBx (w.alloc (.cells (tbA t a) 33)) w.heap.size t a) := TBx.new w t a _ rfl
  have hbA : Below (w.alloc (.cells (tbA t a) 33)).heap.size (w.alloc (.cells (tbA t a) 33)) ((w.alloc (.cells (tbA t a) 33)).alloc (.cells #[.int .i64 0, .int .i64 0, .int .i64 0] 42)) := (Below.refl _ _).alloc (Nat.le_refl _) _
  have HBA : Hid (Below w.heap.size w ((w.alloc (.cells (tbA t a) 33)).alloc (.cells #[.int .i64 0, .int .i64 0, .int .i64 0] 42))) := HB0.out.trans (hbA.mono HB0.out.size)
  have HXA : Hid (TBx ((w.alloc (.cells (tbA t a) 33)).alloc (.cells #[.int .i64 0, .int .i64 0, .int .i64 0] 42)) w.heap.size t a) := HX0.out.below hbA
  have KRA : Hid (SRow ((w.alloc (.cells (tbA t a) 33)).alloc (.cells #[.int .i64 0, .int .i64 0, .int .i64 0] 42)) (w.heap.size + 1) #[.int .i64 0, .int .i64 0, .int .i64 0]) := srow_new (w.alloc (.cells (tbA t a) 33)) #[.int .i64 0, .int .i64 0, .int .i64 0] _ (by simp)
  clear hm hw hs ht hcs HF0 hbA HB0 HX0
  go_enter Tryz.func79, Tryz.ntmps79
  go_wp2
  refine wp_scope_jumps 0 (fun a' w' => ∃ (N : Nat) (u7 u8 u9 u10 u11 u12 u13 u14 u15 u16 u17 u18 u19 u20 u21 u22 u23 u24 u25 u26 u27 u28 u29 u30 u31 u32 u33 u34 u35 u36 u37 : Value), a' = { tmps := #[tbV t a, .int .i64 c, .pointer (some ⟨w.heap.size, 0, none⟩), undef, .pointer (some ⟨w.heap.size + 1, 0, none⟩), .pointer (some ⟨N, 0, none⟩), .int .i64 (c - p + t.maj), u7, u8, u9, u10, u11, u12, u13, u14, u15, u16, u17, u18, u19, u20, u21, u22, u23, u24, u25, u26, u27, u28, u29, u30, u31, u32, u33, u34, u35, u36, u37], defers := [] } ∧ Hid ((∀ k, k < t.ss.length → (t.ss.getD k sl0).2.1 < p) ∧ Below w.heap.size w w' ∧ TBx w' w.heap.size t a ∧ SRow w' (w.heap.size + 1) #[.int .i64 0, .int .i64 0, .int .i64 0] ∧ Bk w' N #[.int .i64 0])) (fun a' _ => 0) rfl ?_ ?_
  · go_wp2_with (first | (refine wpList_load_row rfl 33 (.tmp 2) rfl w.heap.size rfl 33 (tbA t a) (0, 0) _ HXA.out Tryz.underlying33 rfl (by kernel_rfl) ?_) | fail)
    refine Calls.mono (HCP.out _) ?_
    rintro e w1 ⟨rfl, hb1⟩
    have HB1 : Hid (Below w.heap.size w w1) := HBA.out.trans (hb1.mono HBA.out.size)
    have hbV : Below w1.heap.size w1 (w1.alloc (.cells #[.int .i64 p] 3)) := (Below.refl _ _).alloc (Nat.le_refl _) _
    have HBV : Hid (Below w.heap.size w (w1.alloc (.cells #[.int .i64 p] 3))) := HB1.out.trans (hbV.mono HB1.out.size)
    have HXV : Hid (TBx (w1.alloc (.cells #[.int .i64 p] 3)) w.heap.size t a) := (HXA.out.below hb1).below hbV
    have KRV : Hid (SRow (w1.alloc (.cells #[.int .i64 p] 3)) (w.heap.size + 1) #[.int .i64 0, .int .i64 0, .int .i64 0]) := (KRA.out.below hb1).below hbV
    have KPV : Hid (Bk (w1.alloc (.cells #[.int .i64 p] 3)) w1.heap.size #[.int .i64 p]) := Bk.new w1 _ _ _ rfl
    have HN1 : Hid (w.heap.size + 1 < w1.heap.size) := Nat.lt_of_lt_of_le KRA.out.lt hb1.size
    clear hb1 hbV HBA HXA KRA HB1 HCP
    have kp : (w1.alloc (.cells #[.int .i64 p] 3)).cell? ⟨w1.heap.size, 0, none⟩ = some (.int .i64 p) := KPV.out.cell 0 _ rfl
    go_wp2
    go_step3
    go_wp2_with (first | (refine wpList_load_row rfl 33 (.tmp 2) rfl w.heap.size rfl 33 (tbA t a) (0, 0) _ HXV.out Tryz.underlying33 rfl (by kernel_rfl) ?_) | fail)
    revert HBV HXV KRV KPV HN1 kp
    generalize w1.alloc (.cells #[.int .i64 p] 3) = V1
    generalize w1.heap.size = N
    intro HBV HXV KRV KPV HN1 kp
    refine Calls.mono (HCF.out _ _ p r HBV.out kp hr HRK.out) ?_
    rintro e V ⟨rfl, hb2⟩
    have HBW : Hid (Below w.heap.size w V) := HBV.out.trans (hb2.mono HBV.out.size)
    replace HXV : Hid (TBx V w.heap.size t a) := HXV.out.below hb2
    replace KRV : Hid (SRow V (w.heap.size + 1) #[.int .i64 0, .int .i64 0, .int .i64 0]) := KRV.out.below hb2
    replace KPV : Hid (Bk V N #[.int .i64 p]) := KPV.out.below hb2
    clear hb2 HBV kp HCF
    have HBV : Hid (Below w.heap.size w V) := HBW.out
    clear HBW
    by_cases hrn : r < a.sn
    · have HTN : Hid (TN t c r (c - p + (t.ss.getD r sl0).2.1)) := HNH.out r (by omega) HRK.out
      obtain ⟨bd, HBD⟩ : ∃ bd, Hid (c - p = bd) := ⟨_, rfl⟩
      have hbd : 0 ≤ bd ∧ bd ≤ 1000000 := by have := HBD.out; omega
      rw [HBD.out] at HTN ⊢
      obtain ⟨i, hir⟩ : ∃ i, r = i := ⟨_, rfl⟩
      subst hir
      have hi2 : r < a.sn := hrn
      clear HNH HNL HBD KPV HRK
      obtain ⟨b1, o1, hsa, hbl1, p1⟩ := (HSL.out _ HBV.out).at r hi2
      have k18 : V.cell? ⟨w.heap.size, 18, none⟩ = some (.slice (some ⟨b1, o1, none⟩) a.sn a.sc) := by rw [← hsa]; exact HXV.out.cell 18 rfl
      have hx1 := HTM.out.st r (by omega)
      have hx3 := st_lt HTM.out (i := r) (by omega)
      have hi3 : (r : Int) < (a.sn : Int) := by omega
      have hi4 : ((r : Int) == (a.sn : Int)) = false := by simp; omega
      have hi5 : ¬ (r = a.sn) := by omega
      have HKR : Hid (∀ X, Below V.heap.size V X → X.heap[w.heap.size + 1]? = some (.cells #[.int .i64 0, .int .i64 0, .int .i64 0] 42 (0, 0))) := fun X hX => KRV.out.below hX
      simp only [slX] at p1
      generalize hy : t.ss.getD r sl0 = y at p1 HTN hx1 hx3
      obtain ⟨c0, c1, c2⟩ := sl_cells p1
      obtain ⟨x1, x2, x3⟩ := y
      simp only at c0 c1 c2 HTN hx1 hx3
      have HYY : Hid (t.ss.getD r sl0 = (x1, x2, x3)) := hy
      have hw1 : IntKind.i64.wrap (x2 + bd) = x2 + bd := by rw [IntKind.wrap_i64]; omega
      have hbE : Below V.heap.size V (V.alloc (.cells #[.int .i64 x1, .int .i64 (x2 + bd), .int .i64 x3] 42)) := (Below.refl _ _).alloc (Nat.le_refl _) _
      have HKE : Hid ((V.alloc (.cells #[.int .i64 x1, .int .i64 (x2 + bd), .int .i64 x3] 42)).heap[w.heap.size + 1]? = some (.cells #[.int .i64 0, .int .i64 0, .int .i64 0] 42 (0, 0))) := HKR.out _ hbE
      have HBE : Hid (Below w.heap.size w ((V.alloc (.cells #[.int .i64 x1, .int .i64 (x2 + bd), .int .i64 x3] 42)).setRow (w.heap.size + 1) #[.int .i64 x1, .int .i64 (x2 + bd), .int .i64 x3])) := below_setRow (HBV.out.trans (hbE.mono HBV.out.size)) (by omega) _
      have HKF : Hid (((V.alloc (.cells #[.int .i64 x1, .int .i64 (x2 + bd), .int .i64 x3] 42)).setRow (w.heap.size + 1) #[.int .i64 x1, .int .i64 (x2 + bd), .int .i64 x3]).heap[w.heap.size + 1]? = some (.cells #[.int .i64 x1, .int .i64 (x2 + bd), .int .i64 x3] 42 (0, 0))) := setRow_heap _ _ _ _ _ _ HKE.out
      clear p1 hbl1 hy HSL KRV HXV HKR hbE
      go_wp2_with (first | (refine wpList_store_row rfl 42 (.tmp 4) (.tmp 37) rfl (w.heap.size + 1) #[.int .i64 x1, .int .i64 (x2 + bd), .int .i64 x3] rfl rfl 42 #[.int .i64 0, .int .i64 0, .int .i64 0] HKE.out (by kernel_rfl) rfl (by simp [Value.oneCell']) ?_) | fail)
      revert HBE HKF
      generalize (V.alloc (.cells #[.int .i64 x1, .int .i64 (x2 + bd), .int .i64 x3] 42)).setRow (w.heap.size + 1) #[.int .i64 x1, .int .i64 (x2 + bd), .int .i64 x3] = VE
      intro HBE HKF
      go_wp2
      simp only [Exit.jump]
      refine bodyPost_ret (v := .agg #[.int .i64 x1, .int .i64 (x2 + bd), .int .i64 x3]) (res_slot HKF.out rfl) rfl ⟨⟨r, x2 + bd, ?_, ?_⟩, HBE.out⟩
      · rw [HYY.out]
      · rw [show x2 + bd = bd + x2 by omega]; exact HTN.out
    · obtain rfl : r = a.sn := by omega
      have HNO : Hid (∀ k, k < t.ss.length → (t.ss.getD k sl0).2.1 < p) := fun k hk => by
        have := HRK.out k hk
        omega
      have k18 : V.cell? ⟨w.heap.size, 18, none⟩ = some (.slice a.sa a.sn a.sc) := HXV.out.cell 18 rfl
      have k14 : V.cell? ⟨w.heap.size, 14, none⟩ = some (.int .i64 t.maj) := HXV.out.cell 14 rfl
      have kp : V.cell? ⟨N, 0, none⟩ = some (.int .i64 p) := KPV.out.cell 0 _ rfl
      have fp : V.frozen? ⟨N, 0, none⟩ = false := KPV.out.free 0
      have hm1 := HTM.out.maj1
      have hw1 : IntKind.i64.wrap (c - p + t.maj) = c - p + t.maj := by rw [IntKind.wrap_i64]; omega
      have hbS : Below N V (V.setCell ⟨N, 0, none⟩ (.int .i64 0)) := (Below.refl N V).setCell (p := ⟨N, 0, none⟩) (Nat.le_refl _) _
      have HJ : Hid ((∀ k, k < t.ss.length → (t.ss.getD k sl0).2.1 < p) ∧ Below w.heap.size w (V.setCell ⟨N, 0, none⟩ (.int .i64 0)) ∧ TBx (V.setCell ⟨N, 0, none⟩ (.int .i64 0)) w.heap.size t a ∧ SRow (V.setCell ⟨N, 0, none⟩ (.int .i64 0)) (w.heap.size + 1) #[.int .i64 0, .int .i64 0, .int .i64 0] ∧ Bk (V.setCell ⟨N, 0, none⟩ (.int .i64 0)) N #[.int .i64 0]) :=
        ⟨HNO.out, HBV.out.setCell (p := ⟨N, 0, none⟩) (by have := HN1.out; show _ ≤ N; omega) _, HXV.out.low hbS (by have := HN1.out; omega), KRV.out.low hbS (by have := HN1.out; omega), KPV.out.set0 _⟩
      clear HNH HNL HXV KRV KPV HRK HNO hrn hbS HBV
      go_wp2
      go_step3
      refine ⟨rfl, N, _, _, _, _, _, _, _, _, _, _, _, _, _, _, _, _, _, _, _, _, _, _, _, _, _, _, _, _, _, _, _, rfl, HJ.out⟩
  · rintro a' w' ⟨N, u7, u8, u9, u10, u11, u12, u13, u14, u15, u16, u17, u18, u19, u20, u21, u22, u23, u24, u25, u26, u27, u28, u29, u30, u31, u32, u33, u34, u35, u36, u37, rfl, HJ⟩
    have HBV : Hid (Below w.heap.size w w') := HJ.out.2.1
    have HXV : Hid (TBx w' w.heap.size t a) := HJ.out.2.2.1
    have KRV : Hid (SRow w' (w.heap.size + 1) #[.int .i64 0, .int .i64 0, .int .i64 0]) := HJ.out.2.2.2.1
    have kp : w'.cell? ⟨N, 0, none⟩ = some (.int .i64 0) := HJ.out.2.2.2.2.cell 0 _ rfl
    have hn1 := HTM.out.n1
    have hm1 := HTM.out.maj1
    obtain ⟨i, hi2, HTN0, HS0⟩ : ∃ i : Nat, i < a.sn ∧ Hid (TN t c i (c - p + t.maj + (t.ss.getD i sl0).2.1)) ∧ Hid (∀ k, k < t.ss.length → ((0 : Int) ≤ (t.ss.getD k sl0).2.1 ↔ i ≤ k)) := ⟨0, by omega, HNL.out HJ.out.1, fun k hk => ⟨fun _ => Nat.zero_le _, fun _ => HTM.out.st k hk⟩⟩
    obtain ⟨bd, HBD⟩ : ∃ bd, Hid (c - p + t.maj = bd) := ⟨_, rfl⟩
    have hbd : 0 ≤ bd ∧ bd ≤ 1005000 := by have := HBD.out; omega
    have HTN : Hid (TN t c i (bd + (t.ss.getD i sl0).2.1)) := by rw [← HBD.out]; exact HTN0.out
    rw [HBD.out]
    have HCQ : Hid (Calls Tryz.prog 104 #[tbV t a, .func (.func 105) #[] #[.pointer (some ⟨N, 0, none⟩)]] w' fun e w2 => e = .returned (.int .i64 (i : Int)) ∧ Below w'.heap.size w' w2) := HCF.out w' N 0 i HBV.out kp (by omega) HS0.out
    clear HNH HNL HBD HRK HJ HTN0 HS0 HCF HCP HBA HXA KRA
    go_wp2_with (first | (refine wpList_load_row rfl 33 (.tmp 2) rfl w.heap.size rfl 33 (tbA t a) (0, 0) _ HXV.out Tryz.underlying33 rfl (by kernel_rfl) ?_) | fail)
    refine Calls.mono HCQ.out ?_
    rintro e V ⟨rfl, hb2⟩
    have HBW : Hid (Below w.heap.size w V) := HBV.out.trans (hb2.mono HBV.out.size)
    replace HXV : Hid (TBx V w.heap.size t a) := HXV.out.below hb2
    replace KRV : Hid (SRow V (w.heap.size + 1) #[.int .i64 0, .int .i64 0, .int .i64 0]) := KRV.out.below hb2
    clear hb2 HBV kp HCQ
    have HBV : Hid (Below w.heap.size w V) := HBW.out
    clear HBW
    obtain ⟨b1, o1, hsa, hbl1, p1⟩ := (HSL.out _ HBV.out).at i hi2
    have k18 : V.cell? ⟨w.heap.size, 18, none⟩ = some (.slice (some ⟨b1, o1, none⟩) a.sn a.sc) := by rw [← hsa]; exact HXV.out.cell 18 rfl
    have hx1 := HTM.out.st i (by omega)
    have hx3 := st_lt HTM.out (i := i) (by omega)
    have hi3 : (i : Int) < (a.sn : Int) := by omega
    have hi4 : ((i : Int) == (a.sn : Int)) = false := by simp; omega
    have hi5 : ¬ (i = a.sn) := by omega
    have HKR : Hid (∀ X, Below V.heap.size V X → X.heap[w.heap.size + 1]? = some (.cells #[.int .i64 0, .int .i64 0, .int .i64 0] 42 (0, 0))) := fun X hX => KRV.out.below hX
    simp only [slX] at p1
    generalize hy : t.ss.getD i sl0 = y at p1 HTN hx1 hx3
    obtain ⟨c0, c1, c2⟩ := sl_cells p1
    obtain ⟨x1, x2, x3⟩ := y
    simp only at c0 c1 c2 HTN hx1 hx3
    have HYY : Hid (t.ss.getD i sl0 = (x1, x2, x3)) := hy
    have hw1 : IntKind.i64.wrap (x2 + bd) = x2 + bd := by rw [IntKind.wrap_i64]; omega
    have hbE : Below V.heap.size V (V.alloc (.cells #[.int .i64 x1, .int .i64 (x2 + bd), .int .i64 x3] 42)) := (Below.refl _ _).alloc (Nat.le_refl _) _
    have HKE : Hid ((V.alloc (.cells #[.int .i64 x1, .int .i64 (x2 + bd), .int .i64 x3] 42)).heap[w.heap.size + 1]? = some (.cells #[.int .i64 0, .int .i64 0, .int .i64 0] 42 (0, 0))) := HKR.out _ hbE
    have HBE : Hid (Below w.heap.size w ((V.alloc (.cells #[.int .i64 x1, .int .i64 (x2 + bd), .int .i64 x3] 42)).setRow (w.heap.size + 1) #[.int .i64 x1, .int .i64 (x2 + bd), .int .i64 x3])) := below_setRow (HBV.out.trans (hbE.mono HBV.out.size)) (by omega) _
    have HKF : Hid (((V.alloc (.cells #[.int .i64 x1, .int .i64 (x2 + bd), .int .i64 x3] 42)).setRow (w.heap.size + 1) #[.int .i64 x1, .int .i64 (x2 + bd), .int .i64 x3]).heap[w.heap.size + 1]? = some (.cells #[.int .i64 x1, .int .i64 (x2 + bd), .int .i64 x3] 42 (0, 0))) := setRow_heap _ _ _ _ _ _ HKE.out
    clear p1 hbl1 hy HSL KRV HXV HKR hbE
    go_wp2_with (first | (refine wpList_store_row rfl 42 (.tmp 4) (.tmp 37) rfl (w.heap.size + 1) #[.int .i64 x1, .int .i64 (x2 + bd), .int .i64 x3] rfl rfl 42 #[.int .i64 0, .int .i64 0, .int .i64 0] HKE.out (by kernel_rfl) rfl (by simp [Value.oneCell']) ?_) | fail)
    revert HBE HKF
    generalize (V.alloc (.cells #[.int .i64 x1, .int .i64 (x2 + bd), .int .i64 x3] 42)).setRow (w.heap.size + 1) #[.int .i64 x1, .int .i64 (x2 + bd), .int .i64 x3] = VE
    intro HBE HKF
    go_wp2
    simp only [Exit.jump]
    refine bodyPost_ret (v := .agg #[.int .i64 x1, .int .i64 (x2 + bd), .int .i64 x3]) (res_slot HKF.out rfl) rfl ⟨⟨i, x2 + bd, ?_, ?_⟩, HBE.out⟩
    · rw [HYY.out]
    · rw [show x2 + bd = bd + x2 by omega]; exact HTN.out
end Go.Proofs.YtlomcdgfcocmmaaGreatDoor
namespace Go.Proofs.YtlomcdgfcocmmaaGreatDoor
open Go.ChangeShapes Go.WideShapes Go.ChangeAt Go.RowKit Go.Deep Go.Joins
set_option linter.unusedVariables false

/-- Whose slot begins at a place, or -1. -/
def firF (ss : List slT) (p : Int) : Nat → Int
  | 0 => -1
  | k + 1 => if 0 ≤ firF ss p k then firF ss p k else if (ss.getD k sl0).2.1 = p then (ss.getD k sl0).1 else -1
def firV (t : Tb) (p : Int) : Int := firF t.ss p t.ss.length
theorem firF_cases {t : Tb} (h : Tm t) (p : Int) : ∀ k, k ≤ t.ss.length → (firF t.ss p k = -1 ∧ ∀ i, i < k → (t.ss.getD i sl0).2.1 ≠ p) ∨ ∃ i : Nat, i < k ∧ (t.ss.getD i sl0).2.1 = p ∧ firF t.ss p k = (t.ss.getD i sl0).1 := by
  intro k
  induction k with
  | zero => intro _; exact .inl ⟨rfl, fun i hi => by omega⟩
  | succ k ih =>
    intro hk
    rcases ih (by omega) with ⟨g, hn⟩ | ⟨i, hi, hp, he⟩
    · by_cases q : (t.ss.getD k sl0).2.1 = p
      · refine .inr ⟨k, by omega, q, ?_⟩
        simp only [firF]
        rw [g, if_neg (by omega), if_pos q]
      · refine .inl ⟨?_, fun i hi => ?_⟩
        · simp only [firF]
          rw [g, if_neg (by omega), if_neg q]
        · by_cases e : i = k
          · subst e; exact q
          · exact hn i (by omega)
    · refine .inr ⟨i, by omega, hp, ?_⟩
      have := (h.pt i (by omega)).1
      simp only [firF]
      rw [he, if_pos this]
theorem firV_cases {t : Tb} (h : Tm t) (p : Int) : (firV t p = -1 ∧ ∀ i, i < t.ss.length → (t.ss.getD i sl0).2.1 ≠ p) ∨ ∃ i : Nat, i < t.ss.length ∧ (t.ss.getD i sl0).2.1 = p ∧ firV t p = (t.ss.getD i sl0).1 := firF_cases h p _ (Nat.le_refl _)
theorem firF_yes {t : Tb} (h : Tm t) {p : Int} {k : Nat} (hk : firF t.ss p k = -1) (hp : (t.ss.getD k sl0).2.1 = p) {n : Nat} (hn : k < n) (hl : n ≤ t.ss.length) : firF t.ss p n = (t.ss.getD k sl0).1 := by
  have h0 := (h.pt k (by omega)).1
  induction n with
  | zero => omega
  | succ n ih =>
    simp only [firF]
    by_cases e : k = n
    · subst e
      rw [hk, if_neg (by omega), if_pos hp]
    · rw [ih (by omega) (by omega), if_pos h0]
theorem firF_no {ss : List slT} {p : Int} {k : Nat} (h : firF ss p k = -1) (hp : ¬ (ss.getD k sl0).2.1 = p) : firF ss p (k + 1) = -1 := by
  simp only [firF]
  rw [h, if_neg (by omega), if_neg hp]
/-- The answer of NextSwitch. -/
def NR (t : Tb) (c r : Int) : Prop := (¬ (Sd t ∧ IsC c) ∧ r = -1) ∨ ((Sd t ∧ IsC c) ∧ NX t c r)
theorem NR.unique {t : Tb} {c r s : Int} (h : NR t c r) (g : NR t c s) : r = s := by
  rcases h with ⟨h, rfl⟩ | ⟨h, h1⟩ <;> rcases g with ⟨g, rfl⟩ | ⟨g, g1⟩
  · rfl
  · exact absurd g h
  · exact absurd h g
  · exact h1.unique g1
end Go.Proofs.YtlomcdgfcocmmaaGreatDoor
namespace Go.Proofs.YtlomcdgfcocmmaaGreatDoor
open Go.ChangeShapes Go.WideShapes Go.ChangeAt Go.RowKit Go.Deep Go.Joins
set_option linter.unusedVariables false

/-- The first cycles of slots of x among n cycles from c on. -/
def stL (t : Tb) (x c : Int) : Nat → List Int
  | 0 => []
  | n + 1 => stL t x c n ++ (if firV t ((c + (n : Int)) % t.maj) = x then [c + (n : Int)] else [])
theorem stL_len (t : Tb) (x c : Int) (n : Nat) : (stL t x c n).length ≤ n := by
  induction n with
  | zero => simp [stL]
  | succ n ih =>
    simp only [stL, List.length_append]
    split <;> simp <;> omega
theorem stL_none {t : Tb} {x c : Int} {m : Nat} (hx : 0 ≤ x) : ∀ n, (∀ k : Nat, m ≤ k → k < m + n → firV t ((c + (k : Int)) % t.maj) = -1) → stL t x c (m + n) = stL t x c m := by
  intro n
  induction n with
  | zero => intro _; rfl
  | succ n ih =>
    intro h
    show stL t x c (m + n) ++ (if firV t ((c + ((m + n : Nat) : Int)) % t.maj) = x then [c + ((m + n : Nat) : Int)] else []) = _
    rw [ih (fun k h1 h2 => h k h1 (by omega)), h (m + n) (by omega) (by omega), if_neg (by omega), List.append_nil]
theorem fir_none {t : Tb} (h : Tm t) {p : Int} (hn : ∀ i, i < t.ss.length → (t.ss.getD i sl0).2.1 ≠ p) : firV t p = -1 := by
  rcases firV_cases h p with ⟨g, _⟩ | ⟨i, hi, e, _⟩
  · exact g
  · exact absurd e (hn i hi)
theorem st_inj {t : Tb} (h : Tm t) {i j : Nat} (hi : i < t.ss.length) (hj : j < t.ss.length) (e : (t.ss.getD i sl0).2.1 = (t.ss.getD j sl0).2.1) : i = j := by
  have h1 := h.pad1
  have h2 := h.grd1
  have h3 := h.ln i hi
  have h4 := h.ln j hj
  by_cases g : i < j
  · have := h.od i j g hj; omega
  · by_cases g2 : j < i
    · have := h.od j i g2 hi; omega
    · omega
theorem fir_at {t : Tb} (h : Tm t) {p : Int} {i : Nat} (hi : i < t.ss.length) (e : (t.ss.getD i sl0).2.1 = p) : firV t p = (t.ss.getD i sl0).1 := by
  rcases firV_cases h p with ⟨_, g⟩ | ⟨j, hj, e2, g⟩
  · exact absurd e (g i hi)
  · rw [g, st_inj h hi hj (e.trans e2.symm)]
/-- Behind the next turn nothing begins ahead of it. -/
theorem stL_turn {t : Tb} (h : Tm t) {x c d r : Int} {i : Nat} (hx : 0 ≤ x) (hT : TN t d i r) (hc : c ≤ d) (z : Int) (h1 : d ≤ z) (h2 : z ≤ r) : stL t x c (z - c).toNat = stL t x c (d - c).toNat := by
  have e : (z - c).toNat = (d - c).toNat + (z - d).toNat := by omega
  rw [e]
  refine stL_none hx _ (fun k k1 k2 => fir_none h (fun j hj => ?_))
  exact hT.2.2.1.2.2 (c + (k : Int)) (by omega) (by omega) j hj
theorem stL_hit {t : Tb} (h : Tm t) {x c d r : Int} {i : Nat} (hx : 0 ≤ x) (hT : TN t d i r) (hc : c ≤ d) : stL t x c (r + 1 - c).toNat = stL t x c (d - c).toNat ++ (if (t.ss.getD i sl0).1 = x then [r] else []) := by
  have hr := hT.2.2.1.1
  have e : (r + 1 - c).toNat = (r - c).toNat + 1 := by omega
  rw [e]
  show stL t x c (r - c).toNat ++ _ = _
  rw [stL_turn h hx hT hc r hr (Int.le_refl _), show c + ((r - c).toNat : Int) = r by omega, fir_at h hT.1 hT.2.1]
/-- What SlotStarts lists. -/
def startsV (t : Tb) (x y z : Int) (zs : List Int) : Prop := (¬ ((Sd t ∧ IsC y) ∧ IsC z ∧ 0 ≤ x ∧ x < (t.ps.length : Int)) ∧ zs = []) ∨ (((Sd t ∧ IsC y) ∧ IsC z ∧ 0 ≤ x ∧ x < (t.ps.length : Int)) ∧ zs = stL t x y (z - y).toNat)
theorem startsV.unique {t : Tb} {x y z : Int} {zs us : List Int} (h : startsV t x y z zs) (g : startsV t x y z us) : zs = us := by
  rcases h with ⟨h, rfl⟩ | ⟨h, h1⟩ <;> rcases g with ⟨g, rfl⟩ | ⟨g, g1⟩
  · rfl
  · exact absurd g h
  · exact absurd h g
  · rw [h1, g1]
theorem starts_ex (t : Tb) (x y z : Int) : ∃ zs, startsV t x y z zs ∧ zs.length ≤ 50000 := by
  by_cases h : (Sd t ∧ IsC y) ∧ IsC z ∧ 0 ≤ x ∧ x < (t.ps.length : Int)
  · refine ⟨_, .inr ⟨h, rfl⟩, ?_⟩
    have := stL_len t x y (z - y).toNat
    have h1 := h.1.2.1
    have h2 := h.2.1.2
    omega
  · exact ⟨_, .inl ⟨h, rfl⟩, by simp⟩
/-- The list, also for a number that is no partition's. -/
def stM (t : Tb) (x y : Int) (n : Nat) : List Int := if 0 ≤ x ∧ x < (t.ps.length : Int) then stL t x y n else []
theorem stM_len (t : Tb) (x y : Int) (n : Nat) : (stM t x y n).length ≤ n := by
  unfold stM
  split
  · exact stL_len t x y n
  · simp
theorem stM_zero (t : Tb) (x y : Int) : stM t x y (y - y).toNat = [] := by
  rw [Int.sub_self]
  unfold stM
  split <;> rfl
theorem stM_turn {t : Tb} (h : Tm t) {x c d r : Int} {i : Nat} (hT : TN t d i r) (hc : c ≤ d) (z : Int) (h1 : d ≤ z) (h2 : z ≤ r) : stM t x c (z - c).toNat = stM t x c (d - c).toNat := by
  unfold stM
  split
  · rename_i hx
    exact stL_turn h hx.1 hT hc z h1 h2
  · rfl
theorem stM_hit {t : Tb} (h : Tm t) {x c d r : Int} {i : Nat} (hT : TN t d i r) (hc : c ≤ d) (he : (t.ss.getD i sl0).1 = x) : stM t x c (r + 1 - c).toNat = stM t x c (d - c).toNat ++ [r] := by
  have hx := h.pt i hT.1
  rw [he] at hx
  unfold stM
  rw [if_pos hx, if_pos hx, stL_hit h hx.1 hT hc, if_pos he]
theorem stM_miss {t : Tb} (h : Tm t) {x c d r : Int} {i : Nat} (hT : TN t d i r) (hc : c ≤ d) (he : ¬ (t.ss.getD i sl0).1 = x) : stM t x c (r + 1 - c).toNat = stM t x c (d - c).toNat := by
  unfold stM
  split
  · rename_i hx
    rw [stL_hit h hx.1 hT hc, if_neg he, List.append_nil]
  · rfl
theorem starts_stM {t : Tb} {x y z : Int} {zs : List Int} (h : startsV t x y z zs) (hs : (Sd t ∧ IsC y) ∧ IsC z) : zs = stM t x y (z - y).toNat := by
  unfold stM
  rcases h with ⟨h, rfl⟩ | ⟨h, h1⟩
  · rw [if_neg (fun g => h ⟨hs.1, hs.2, g⟩)]
  · rw [if_pos h.2.2, h1]
/-- What the turn's block tells. -/
def curR (v : Value) (w : World) : Int := match v with | .pointer (some p) => (match w.cell? ⟨p.block, 1, none⟩ with | some (.int _ q) => q | _ => 0) | _ => 0
theorem curR_at {w : World} {N : Nat} {x y z : Int} (h : SRow w N #[.int .i64 x, .int .i64 y, .int .i64 z]) : curR (.pointer (some ⟨N, 0, none⟩)) w = y := by
  have hc : w.cell? ⟨N, 1, none⟩ = some (.int .i64 y) := by
    unfold SRow at h
    simp [World.cell?, h]
  unfold curR
  simp only [hc]
theorem SRow.cell {w : World} {N : Nat} {cs : Array Value} (h : SRow w N cs) (j : Nat) {v : Value} (hj : cs[j]? = some v) : w.cell? ⟨N, j, none⟩ = some v := by
  unfold SRow at h
  simp [World.cell?, h, hj]
theorem OwnI.row {w : World} {base N : Nat} {v : Value} {zs : List Int} (h : OwnI w base v zs) (cs : Array Value) (hne : ∀ g, v.ownBlock = some g → g ≠ N) : OwnI (w.setRow N cs) base v zs :=
  h.kept (row := some N) ⟨rfl, rfl, rfl, by simp [World.setRow], fun k hk hn => setRow_other w N k cs (fun e => hn (by rw [e]))⟩ (fun g hg e => hne g hg (Option.some.inj e).symm)
end Go.Proofs.YtlomcdgfcocmmaaGreatDoor
