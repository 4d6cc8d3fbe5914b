
/-
  What is drawn: whether once, how great, a word: whatever the bytes. Conditions: the cursor stands over bytes; the bytes are at most 1048576.
-/
import Derived.Test.YtdjfijkgmeapdaaProg
import Derived.Test.YtdjfijkgmeapdaaDrx
import Derived.Test.YtdjfijkgmeapdaaOnl
namespace Go.Proofs.Ytdjfijkgmeapdaa
open Go.ChangeShapes Go.WideShapes Go.ChangeAt Go.RowKit Go.Deep
set_option linter.unusedVariables false

theorem Bk.turn {w w' : World} {b B : Nat} {cs : Array Value} (h : Bk w b cs) (ht : Turn B w w') (hn : b ≠ B) : Bk w' b cs :=
  ⟨Nat.lt_of_lt_of_le h.lt ht.size, fun i v e => (ht.cell h.lt hn).trans (h.cell i v e), fun i => (ht.frozen h.lt hn).trans (h.free i)⟩
theorem Bk.low {w w' : World} {b B : Nat} {cs : Array Value} (h : Bk w b cs) (hb : Below B w w') (hlt : b < B) : Bk w' b cs :=
  ⟨Nat.lt_of_lt_of_le h.lt hb.size, fun i v e => (World.cell?_of_block (a := ⟨b, i, none⟩) (hb.block b hlt)).trans (h.cell i v e), fun i => (World.frozen?_of_block (a := ⟨b, i, none⟩) (hb.block b hlt)).trans (h.free i)⟩
theorem turn_far {B Y : Nat} {w X : World} (h : Turn B w X) (hY : w.heap.size ≤ Y) (j : Nat) (u : Value) : Turn B w (X.setCell ⟨Y, j, none⟩ u) :=
  ⟨h.os, h.tape, h.output, by simpa [World.setCell] using h.size, fun k hk hn => (Below.heap_setCell _ _ _ _ (by show k ≠ Y; omega)).trans (h.block k hk hn)⟩
theorem cur_far {w : World} {B : Nat} {a : Option Addr} {zs : List Int} {cap : Nat} (h : Cur w B a zs cap) (Y j : Nat) (u : Value) (hY : B ≠ Y) (hf : ∀ b off, a = some ⟨b, off, none⟩ → 0 < zs.length → b ≠ Y) : Cur (w.setCell ⟨Y, j, none⟩ u) B a zs cap := by
  have ht : Turn Y w (w.setCell ⟨Y, j, none⟩ u) := (Turn.refl _ _).setCell j u
  obtain ⟨i, hi, e1⟩ := h.c1
  obtain ⟨x, e2⟩ := h.c2
  exact ⟨by simpa using h.lt, (ht.cell h.lt hY).trans h.c0, ⟨i, hi, (ht.cell h.lt hY).trans e1⟩, ⟨x, (ht.cell h.lt hY).trans e2⟩, fun i => (ht.frozen h.lt hY).trans (h.free i), h.seg.turn ht hf, h.far, h.byte, h.small⟩
theorem Cur.belowC {w w' : World} {B C : Nat} {a : Option Addr} {zs : List Int} {cap : Nat} (h : Cur w B a zs cap) (hb : Below C w w') (hB : B < C) (ha : ∀ b off, a = some ⟨b, off, none⟩ → 0 < zs.length → b < C) : Cur w' B a zs cap := by
  have hc : ∀ o, w'.cell? ⟨B, o, none⟩ = w.cell? ⟨B, o, none⟩ := fun o => hb.cell (p := ⟨B, o, none⟩) hB
  refine ⟨Nat.lt_of_lt_of_le h.lt hb.size, (hc 0).trans h.c0, ?_, ?_, fun i => (hb.frozen (p := ⟨B, i, none⟩) hB).trans (h.free i), ?_, h.far, h.byte, h.small⟩
  · obtain ⟨i, hi, e⟩ := h.c1
    exact ⟨i, hi, (hc 1).trans e⟩
  · obtain ⟨x, e⟩ := h.c2
    exact ⟨x, (hc 2).trans e⟩
  · intro h0
    obtain ⟨b, off, e, hlt, hcl⟩ := h.seg h0
    exact ⟨b, off, e, Nat.lt_of_lt_of_le hlt hb.size, fun i hi => (hb.cell (p := ⟨b, off + i, none⟩) (ha b off e h0)).trans (hcl i hi)⟩
/-- The cursor of a call that began in 'w' and stands in 'W'. -/
structure CT (w W : World) (B : Nat) (a : Option Addr) (zs : List Int) (cap : Nat) : Prop where
  cur : Cur W B a zs cap
  turn : Turn B w W
  lo : B < w.heap.size
  la : ∀ b off, a = some ⟨b, off, none⟩ → 0 < zs.length → b < w.heap.size
theorem CT.start {w : World} {B : Nat} {a : Option Addr} {zs : List Int} {cap : Nat} (h : Cur w B a zs cap) : CT w w B a zs cap := ⟨h, Turn.refl _ _, h.lt, seg_lt h.seg⟩
theorem CT.below {w W X : World} {B : Nat} {a : Option Addr} {zs : List Int} {cap : Nat} (h : CT w W B a zs cap) (hb : Below W.heap.size W X) : CT w X B a zs cap := ⟨h.cur.below hb, h.turn.trans (Turn.of_below hb), h.lo, h.la⟩
theorem CT.alloc {w W : World} {B : Nat} {a : Option Addr} {zs : List Int} {cap : Nat} (h : CT w W B a zs cap) (o : Obj) : CT w (W.alloc o) B a zs cap := h.below ((Below.refl _ _).alloc (Nat.le_refl _) _)
theorem CT.step {w W X : World} {B : Nat} {a : Option Addr} {zs : List Int} {cap : Nat} (h : CT w W B a zs cap) (hc : Cur X B a zs cap) (ht : Turn B W X) : CT w X B a zs cap := ⟨hc, h.turn.trans ht, h.lo, h.la⟩
theorem CT.set {w W : World} {B : Nat} {a : Option Addr} {zs : List Int} {cap : Nat} (h : CT w W B a zs cap) (Y j : Nat) (u : Value) (hY : w.heap.size ≤ Y) : CT w (W.setCell ⟨Y, j, none⟩ u) B a zs cap :=
  ⟨cur_far h.cur Y j u (by have := h.lo; omega) (fun b off e h0 => by have := h.la b off e h0; omega), turn_far h.turn hY j u, h.lo, h.la⟩
theorem draw_once (w : World) (B : Nat) (a : Option Addr) (zs : List Int) (cap : Nat) (n : Int) (hc : Cur w B a zs cap) (h1 : 1 ≤ n) (h2 : n ≤ 4294967296) :
    Calls Try.prog 16 #[.pointer (some ⟨B, 0, none⟩), .int .i64 n] w fun e w' => ∃ x : Bool, e = .returned (.bool x) ∧ Cur w' B a zs cap ∧ Turn B w w' := by
  go_enter Try.func16, Try.ntmps16
  go_wp2_with fail
  refine (draw_below _ _ _ _ _ _ hc h1 h2).mono ?_
  rintro e w1 ⟨x, rfl, hx0, hx1, hc1, ht1⟩
  go_wp2
  go_ret
  exact ⟨_, rfl, hc1, ht1⟩
theorem size_80 (a : Option Addr) (n cap : Nat) (w : World) (h : n ≤ 1048576) : Calls Try.prog 15 #[.slice a n cap, .int .i64 80] w fun e w' => ∃ x : Int, e = .returned (.int .i64 x) ∧ 1 ≤ x ∧ x ≤ 80 ∧ w' = w := by
  have hq : Int.tdiv (n : Int) 20 = (n : Int) / 20 := Int.tdiv_eq_ediv_of_nonneg (by omega)
  have e1 : IntKind.i64.wrap (Int.tdiv (n : Int) 20) = (n : Int) / 20 := by rw [hq, IntKind.wrap_i64]; omega
  have e2 : IntKind.i64.wrap (2 + (n : Int) / 20) = 2 + (n : Int) / 20 := by rw [IntKind.wrap_i64]; omega
  by_cases hg : 80 < 2 + (n : Int) / 20
  · go_enter Try.func15, Try.ntmps15
    go_wp2
    go_ret
    exact ⟨80, rfl, by omega, by omega, rfl⟩
  · go_enter Try.func15, Try.ntmps15
    go_wp2
    go_ret
    exact ⟨2 + (n : Int) / 20, rfl, by omega, by omega, rfl⟩
end Go.Proofs.Ytdjfijkgmeapdaa
