
/-
  What is drawn: whether once, a policy, a row of a channel: whatever the bytes, they are right. Conditions: the cursor stands over bytes.
-/
import Derived.Test.YtlomcdgfcocmmaaGreatDoorBas
import Derived.Test.YtlomcdgfcocmmaaGreatDoorRul
import Derived.Test.YtlomcdgfcocmmaaGreatDoorDraw
import Derived.Deep.RegionHeldLaw
namespace Go.Proofs.YtlomcdgfcocmmaaGreatDoor
open Go.ChangeShapes Go.WideShapes Go.ChangeAt Go.RowKit Go.Deep
set_option linter.unusedVariables false

theorem Bk.turn {w w' : World} {b B : Nat} {cs : Array Value} (h : Bk w b cs) (ht : Turn B w w') (hn : b ≠ B) : Bk w' b cs :=
  ⟨Nat.lt_of_lt_of_le h.lt ht.size, fun i v e => (ht.cell h.lt hn).trans (h.cell i v e), fun i => (ht.frozen h.lt hn).trans (h.free i)⟩
theorem turn_far {B Y : Nat} {w X : World} (h : Turn B w X) (hY : w.heap.size ≤ Y) (j : Nat) (u : Value) : Turn B w (X.setCell ⟨Y, j, none⟩ u) :=
  ⟨h.os, h.tape, h.output, by simpa [World.setCell] using h.size, fun k hk hn => (Below.heap_setCell _ _ _ _ (by show k ≠ Y; omega)).trans (h.block k hk hn)⟩
theorem cur_far {w : World} {B : Nat} {a : Option Addr} {zs : List Int} {cap : Nat} (h : Cur w B a zs cap) (Y j : Nat) (u : Value) (hY : B ≠ Y) (hf : ∀ b off, a = some ⟨b, off, none⟩ → 0 < zs.length → b ≠ Y) : Cur (w.setCell ⟨Y, j, none⟩ u) B a zs cap := by
  have ht : Turn Y w (w.setCell ⟨Y, j, none⟩ u) := (Turn.refl _ _).setCell j u
  obtain ⟨i, hi, e1⟩ := h.c1
  obtain ⟨x, e2⟩ := h.c2
  exact ⟨by simpa using h.lt, (ht.cell h.lt hY).trans h.c0, ⟨i, hi, (ht.cell h.lt hY).trans e1⟩, ⟨x, (ht.cell h.lt hY).trans e2⟩, fun i => (ht.frozen h.lt hY).trans (h.free i), h.seg.turn ht hf, h.far, h.byte, h.small⟩
theorem Cur.belowC {w w' : World} {B C : Nat} {a : Option Addr} {zs : List Int} {cap : Nat} (h : Cur w B a zs cap) (hb : Below C w w') (hB : B < C) (ha : ∀ b off, a = some ⟨b, off, none⟩ → 0 < zs.length → b < C) : Cur w' B a zs cap := by
  have hc : ∀ o, w'.cell? ⟨B, o, none⟩ = w.cell? ⟨B, o, none⟩ := fun o => hb.cell (p := ⟨B, o, none⟩) hB
  refine ⟨Nat.lt_of_lt_of_le h.lt hb.size, (hc 0).trans h.c0, ?_, ?_, fun i => (hb.frozen (p := ⟨B, i, none⟩) hB).trans (h.free i), ?_, h.far, h.byte, h.small⟩
  · obtain ⟨i, hi, e⟩ := h.c1
    exact ⟨i, hi, (hc 1).trans e⟩
  · obtain ⟨x, e⟩ := h.c2
    exact ⟨x, (hc 2).trans e⟩
  · intro h0
    obtain ⟨b, off, e, hlt, hcl⟩ := h.seg h0
    exact ⟨b, off, e, Nat.lt_of_lt_of_le hlt hb.size, fun i hi => (hb.cell (p := ⟨b, off + i, none⟩) (ha b off e h0)).trans (hcl i hi)⟩
/-- The cursor of a call that began in 'w' and stands in 'W'. -/
structure CT (w W : World) (B : Nat) (a : Option Addr) (zs : List Int) (cap : Nat) : Prop where
  cur : Cur W B a zs cap
  turn : Turn B w W
  lo : B < w.heap.size
  la : ∀ b off, a = some ⟨b, off, none⟩ → 0 < zs.length → b < w.heap.size
theorem CT.start {w : World} {B : Nat} {a : Option Addr} {zs : List Int} {cap : Nat} (h : Cur w B a zs cap) : CT w w B a zs cap := ⟨h, Turn.refl _ _, h.lt, seg_lt h.seg⟩
theorem CT.below {w W X : World} {B : Nat} {a : Option Addr} {zs : List Int} {cap : Nat} (h : CT w W B a zs cap) (hb : Below W.heap.size W X) : CT w X B a zs cap := ⟨h.cur.below hb, h.turn.trans (Turn.of_below hb), h.lo, h.la⟩
theorem CT.alloc {w W : World} {B : Nat} {a : Option Addr} {zs : List Int} {cap : Nat} (h : CT w W B a zs cap) (o : Obj) : CT w (W.alloc o) B a zs cap := h.below ((Below.refl _ _).alloc (Nat.le_refl _) _)
theorem CT.step {w W X : World} {B : Nat} {a : Option Addr} {zs : List Int} {cap : Nat} (h : CT w W B a zs cap) (hc : Cur X B a zs cap) (ht : Turn B W X) : CT w X B a zs cap := ⟨hc, h.turn.trans ht, h.lo, h.la⟩
theorem CT.set {w W : World} {B : Nat} {a : Option Addr} {zs : List Int} {cap : Nat} (h : CT w W B a zs cap) (Y j : Nat) (u : Value) (hY : w.heap.size ≤ Y) : CT w (W.setCell ⟨Y, j, none⟩ u) B a zs cap :=
  ⟨cur_far h.cur Y j u (by have := h.lo; omega) (fun b off e h0 => by have := h.la b off e h0; omega), turn_far h.turn hY j u, h.lo, h.la⟩
theorem draw_once (w : World) (B : Nat) (a : Option Addr) (zs : List Int) (cap : Nat) (n : Int) (hc : Cur w B a zs cap) (h1 : 1 ≤ n) (h2 : n ≤ 4294967296) :
    Calls Tryz.prog 31 #[.pointer (some ⟨B, 0, none⟩), .int .i64 n] w fun e w' => ∃ x : Bool, e = .returned (.bool x) ∧ Cur w' B a zs cap ∧ Turn B w w' := by
  go_enter Tryz.func31, Tryz.ntmps31
  go_wp2_with fail
  refine (draw_below _ _ _ _ _ _ hc h1 h2).mono ?_
  rintro e w1 ⟨x, rfl, hx0, hx1, hc1, ht1⟩
  go_wp2
  go_ret
  exact ⟨_, rfl, hc1, ht1⟩
set_option maxHeartbeats 1000000 in
theorem draw_policy (w : World) (B : Nat) (a : Option Addr) (zs : List Int) (cap : Nat) (hc : Cur w B a zs cap) :
    Calls Tryz.prog 100 #[.pointer (some ⟨B, 0, none⟩)] w fun e w' => ∃ k m : Int, e = .returned (pol k m) ∧ polOk k m = true ∧ Cur w' B a zs cap ∧ Turn B w w' := by
  have H0 : Hid (CT w (w.alloc (.cells (prow 0 0) 69)) B a zs cap) := (CT.start hc).alloc _
  have K0 : Hid (Bk (w.alloc (.cells (prow 0 0) 69)) w.heap.size (prow 0 0)) := Bk.new _ _ _ _ rfl
  have hlo := hc.lt
  clear hc
  go_enter Tryz.func100, Tryz.ntmps100
  go_wp2_with fail
  refine (draw_below _ _ _ _ _ _ H0.out.cur (by omega) (by omega)).mono ?_
  rintro e w1 ⟨x, rfl, hx0, hx1, hc1, ht1⟩
  have H1 : Hid (CT w w1 B a zs cap) := H0.out.step hc1 ht1
  have K1 : Hid (Bk w1 w.heap.size (prow 0 0)) := K0.out.turn ht1 (by omega)
  clear H0 K0 hc1 ht1
  cases hx : (x == 1)
  · have HP0 : Hid (polOk x 0 = true) := by
      have hx1' : x ≠ 1 := by simpa using hx
      have : x = 0 ∨ x = 2 := by omega
      rcases this with rfl | rfl <;> rfl
    have p0 := K1.out.cell 0 _ rfl
    have p1 := K1.out.cell 1 _ rfl
    have pf := K1.out.free
    have H2 : Hid (CT w ((w1.setCell ⟨w.heap.size, 0, none⟩ (.int .i64 x)).setCell ⟨w.heap.size, 1, none⟩ (.int .i64 0)) B a zs cap) := (H1.out.set _ 0 _ (Nat.le_refl _)).set _ 1 _ (Nat.le_refl _)
    have K2 : Hid (Bk ((w1.setCell ⟨w.heap.size, 0, none⟩ (.int .i64 x)).setCell ⟨w.heap.size, 1, none⟩ (.int .i64 0)) w.heap.size (prow x 0)) := (K1.out.set 0 (.int .i64 x) (by simp) (cs' := prow x 0) rfl).set 1 _ (by simp) rfl
    go_wp2
    clear p0 p1 pf H1 K1
    revert H2 K2
    generalize ((w1.setCell ⟨w.heap.size, 0, none⟩ (.int .i64 x)).setCell ⟨w.heap.size, 1, none⟩ (.int .i64 0)) = Wf
    intro H2 K2
    have q0 := K2.out.cell 0 _ rfl
    have q1 := K2.out.cell 1 _ rfl
    exact bodyPost_ret (v := pol x 0) (by simp [results, Tryz.results100, go_sem, q0, q1]) rfl ⟨x, 0, rfl, HP0.out, H2.out.cur, H2.out.turn⟩
  · have hx' : x = 1 := by simpa using hx
    subst hx'
    have HO : Hid (Own .i64 (w1.alloc (.cells #[.int .i64 0, .int .i64 1, .int .i64 2, .int .i64 3, .int .i64 100] 3)) w1.heap.size [0, 1, 2, 3, 100]) := own_litD .i64 w1 3 [0, 1, 2, 3, 100]
    have hz1 : B < w1.heap.size := H1.out.cur.lt
    have H1a : Hid (CT w (w1.alloc (.cells #[.int .i64 0, .int .i64 1, .int .i64 2, .int .i64 3, .int .i64 100] 3)) B a zs cap) := H1.out.alloc _
    have K1a : Hid (Bk (w1.alloc (.cells #[.int .i64 0, .int .i64 1, .int .i64 2, .int .i64 3, .int .i64 100] 3)) w.heap.size (prow 0 0)) := K1.out.alloc _
    clear H1 K1
    go_wp2_with fail
    refine (draw_pick _ _ _ _ _ _ [0, 1, 2, 3, 100] H1a.out.cur HO.out (by omega) (by simp) (by simp)).mono ?_
    rintro e w2 ⟨y, rfl, hy, hc2, ht2⟩
    have H2 : Hid (CT w w2 B a zs cap) := H1a.out.step hc2 ht2
    have K2 : Hid (Bk w2 w.heap.size (prow 0 0)) := K1a.out.turn ht2 (by omega)
    have HP1 : Hid (polOk 1 y = true) := by
      simp at hy
      rcases hy with rfl | rfl | rfl | rfl | rfl <;> rfl
    clear H1a K1a hc2 ht2 hy HO
    have p0 := K2.out.cell 0 _ rfl
    have p1 := K2.out.cell 1 _ rfl
    have pf := K2.out.free
    have H3 : Hid (CT w ((w2.setCell ⟨w.heap.size, 0, none⟩ (.int .i64 1)).setCell ⟨w.heap.size, 1, none⟩ (.int .i64 y)) B a zs cap) := (H2.out.set _ 0 _ (Nat.le_refl _)).set _ 1 _ (Nat.le_refl _)
    have K3 : Hid (Bk ((w2.setCell ⟨w.heap.size, 0, none⟩ (.int .i64 1)).setCell ⟨w.heap.size, 1, none⟩ (.int .i64 y)) w.heap.size (prow 1 y)) := (K2.out.set 0 (.int .i64 1) (by simp) (cs' := prow 1 0) rfl).set 1 _ (by simp) rfl
    go_wp2
    clear p0 p1 pf H2 K2
    revert H3 K3
    generalize ((w2.setCell ⟨w.heap.size, 0, none⟩ (.int .i64 1)).setCell ⟨w.heap.size, 1, none⟩ (.int .i64 y)) = Wf
    intro H3 K3
    have q0 := K3.out.cell 0 _ rfl
    have q1 := K3.out.cell 1 _ rfl
    exact bodyPost_ret (v := pol 1 y) (by simp [results, Tryz.results100, go_sem, q0, q1]) rfl ⟨1, y, rfl, HP1.out, H3.out.cur, H3.out.turn⟩
end Go.Proofs.YtlomcdgfcocmmaaGreatDoor
