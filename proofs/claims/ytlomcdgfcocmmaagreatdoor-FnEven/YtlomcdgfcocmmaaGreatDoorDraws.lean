
/-
  The cursor of a draw in memory, and what a draw may turn: plain facts on worlds. No function of the program in sight; no conditions but those that each fact names.
-/
import Derived.Test.YtlomcdgfcocmmaaGreatDoorBas
import Derived.Laws.BitsLemmas
namespace Go.Proofs.YtlomcdgfcocmmaaGreatDoor
open Go.ChangeShapes Go.WideShapes Go.ChangeAt Go.RowKit Go.Deep
set_option linter.unusedVariables false

namespace Wd
theorem and_mask (e : Nat) (he : e ≤ 62) (m : Int) (hm : m = (2 ^ e : Nat) - 1) (n : Int) : bits .and .i64 n m = n % ((2 ^ e : Nat) : Int) := by
  have hp : 2 ^ e ≤ 2 ^ 62 := Nat.pow_le_pow_right (by omega) he
  have hp1 : 1 ≤ 2 ^ e := Nat.one_le_two_pow
  have hmn : (BitVec.ofInt 64 m).toNat = 2 ^ e - 1 := by
    rw [BitVec.toNat_ofInt, hm]
    omega
  have key : (BitVec.ofInt 64 n &&& BitVec.ofInt 64 m).toNat = (n % ((2 ^ 64 : Nat) : Int)).toNat % 2 ^ e := by
    rw [BitVec.toNat_and, BitVec.toNat_ofInt, hmn, Nat.and_two_pow_sub_one_eq_mod]
  show IntKind.i64.wrap ((BitVec.ofInt 64 n &&& BitVec.ofInt 64 m).toNat : Nat) = _
  rw [key, IntKind.wrap_i64]
  have hd : (n % ((2 ^ 64 : Nat) : Int)) % ((2 ^ e : Nat) : Int) = n % ((2 ^ e : Nat) : Int) := by
    apply Int.emod_emod_of_dvd
    exact Int.natCast_dvd_natCast.2 (Nat.pow_dvd_pow 2 (by omega))
  have hc : (((n % ((2 ^ 64 : Nat) : Int)).toNat % 2 ^ e : Nat) : Int) = (n % ((2 ^ 64 : Nat) : Int)) % ((2 ^ e : Nat) : Int) := by
    rw [Int.natCast_emod]
    congr 1
    omega
  have hb := Int.emod_lt_of_pos n (show (0 : Int) < ((2 ^ e : Nat) : Int) by omega)
  have hb0 := Int.emod_nonneg n (show ((2 ^ e : Nat) : Int) ≠ 0 by omega)
  rw [hc, hd]
  omega
theorem and255 (n : Int) : bits .and .i64 n 255 = n % 256 := and_mask 8 (by omega) 255 (by decide) n
theorem and30 (n : Int) : bits .and .i64 n 1073741823 = n % 1073741824 := and_mask 30 (by omega) 1073741823 (by decide) n
end Wd

/-- Of the blocks of 'w' none but 'B' is another in 'w''. -/
structure Turn (B : Nat) (w w' : World) : Prop where
  os : w'.os = w.os
  tape : w'.tape = w.tape
  output : w'.output = w.output
  size : w.heap.size ≤ w'.heap.size
  block : ∀ k, k < w.heap.size → k ≠ B → w'.heap[k]? = w.heap[k]?
theorem Turn.refl (B : Nat) (w : World) : Turn B w w := ⟨rfl, rfl, rfl, Nat.le_refl _, fun _ _ _ => rfl⟩
theorem Turn.trans {B : Nat} {a b c : World} (h : Turn B a b) (k : Turn B b c) : Turn B a c :=
  ⟨k.os.trans h.os, k.tape.trans h.tape, k.output.trans h.output, Nat.le_trans h.size k.size, fun i hi hn => (k.block i (Nat.lt_of_lt_of_le hi h.size) hn).trans (h.block i hi hn)⟩
theorem Turn.drewN {B : Nat} {a w : World} (h : Turn B a w) (n : Nat) : Turn B a (w.drewN n) := h.trans ⟨rfl, rfl, rfl, Nat.le_refl _, fun _ _ _ => rfl⟩
theorem Turn.setCell {B : Nat} {a w : World} (h : Turn B a w) (o : Nat) (v : Value) : Turn B a (w.setCell ⟨B, o, none⟩ v) :=
  h.trans ⟨rfl, rfl, rfl, by simp [World.setCell], fun k _ hn => Below.heap_setCell _ _ _ _ hn⟩
theorem Turn.alloc {B : Nat} {a w : World} (h : Turn B a w) (o : Obj) : Turn B a (w.alloc o) :=
  h.trans ⟨rfl, rfl, rfl, by simp, fun k hk _ => Below.heap_alloc _ _ _ hk⟩
theorem Turn.of_below {B : Nat} {a w : World} (h : Below a.heap.size a w) : Turn B a w := ⟨h.os, h.tape, h.output, h.size, fun k hk _ => h.block k hk⟩
theorem Turn.below {B C : Nat} {a w : World} (h : Turn B a w) (hC : C ≤ B) (hs : C ≤ a.heap.size) : Below C a w := ⟨h.os, h.tape, h.output, h.size, fun k hk => h.block k (by omega) (by omega)⟩
theorem Turn.cell {B : Nat} {w w' : World} (h : Turn B w w') {b o : Nat} (hb : b < w.heap.size) (hn : b ≠ B) : w'.cell? ⟨b, o, none⟩ = w.cell? ⟨b, o, none⟩ := World.cell?_of_block (w := w) (h.block b hb hn)
theorem Turn.frozen {B : Nat} {w w' : World} (h : Turn B w w') {b o : Nat} (hb : b < w.heap.size) (hn : b ≠ B) : w'.frozen? ⟨b, o, none⟩ = w.frozen? ⟨b, o, none⟩ := World.frozen?_of_block (w := w) (h.block b hb hn)

/-- The block 'B' is a cursor over the bytes 'zs', which lie at 'a'. -/
structure Cur (w : World) (B : Nat) (a : Option Addr) (zs : List Int) (cap : Nat) : Prop where
  lt : B < w.heap.size
  c0 : w.cell? ⟨B, 0, none⟩ = some (.slice a zs.length cap)
  c1 : ∃ i : Nat, i ≤ zs.length ∧ w.cell? ⟨B, 1, none⟩ = some (.int .i64 i)
  c2 : ∃ h : Int, w.cell? ⟨B, 2, none⟩ = some (.int .i64 h)
  free : ∀ i, w.frozen? ⟨B, i, none⟩ = false
  seg : Seg .u8 w a zs
  far : ∀ b off, a = some ⟨b, off, none⟩ → 0 < zs.length → b ≠ B
  byte : ∀ z ∈ zs, (Lit.int .u8 z).wf = true
  small : zs.length ≤ 1048577
theorem Seg.turn {k : IntKind} {w w' : World} {B : Nat} {a : Option Addr} {zs : List Int} (h : Seg k w a zs) (ht : Turn B w w') (hf : ∀ b off, a = some ⟨b, off, none⟩ → 0 < zs.length → b ≠ B) : Seg k w' a zs := by
  intro h0
  obtain ⟨b, off, e, hlt, hc⟩ := h h0
  exact ⟨b, off, e, Nat.lt_of_lt_of_le hlt ht.size, fun i hi => (ht.cell hlt (hf b off e h0)).trans (hc i hi)⟩
theorem Cur.drewN {w : World} {B : Nat} {a : Option Addr} {zs : List Int} {cap : Nat} (h : Cur w B a zs cap) (n : Nat) : Cur (w.drewN n) B a zs cap :=
  ⟨h.lt, h.c0, h.c1, h.c2, h.free, h.seg.drewN n, h.far, h.byte, h.small⟩
/-- A cursor stays one while another block is turned, or new ones are made. -/
theorem Cur.below {w w' : World} {B : Nat} {a : Option Addr} {zs : List Int} {cap : Nat} (h : Cur w B a zs cap) (hb : Below w.heap.size w w') : Cur w' B a zs cap := by
  have hc : ∀ o, w'.cell? ⟨B, o, none⟩ = w.cell? ⟨B, o, none⟩ := fun o => hb.cell (p := ⟨B, o, none⟩) h.lt
  refine ⟨Nat.lt_of_lt_of_le h.lt hb.size, (hc 0).trans h.c0, ?_, ?_, fun i => (hb.frozen (p := ⟨B, i, none⟩) h.lt).trans (h.free i), h.seg.below hb, h.far, h.byte, h.small⟩
  · obtain ⟨i, hi, e⟩ := h.c1
    exact ⟨i, hi, (hc 1).trans e⟩
  · obtain ⟨x, e⟩ := h.c2
    exact ⟨x, (hc 2).trans e⟩
theorem Cur.set1 {w : World} {B : Nat} {a : Option Addr} {zs : List Int} {cap : Nat} (h : Cur w B a zs cap) (i : Nat) (hi : i ≤ zs.length) : Cur (w.setCell ⟨B, 1, none⟩ (.int .i64 i)) B a zs cap := by
  have ht : Turn B w (w.setCell ⟨B, 1, none⟩ (.int .i64 i)) := (Turn.refl _ _).setCell 1 _
  obtain ⟨j, _, e⟩ := h.c1
  obtain ⟨x, ex⟩ := h.c2
  refine ⟨by simpa using h.lt, ?_, ⟨i, hi, World.cell?_setCell_same _ _ _ e⟩, ⟨x, ?_⟩, fun i => by simpa using h.free i, h.seg.turn ht h.far, h.far, h.byte, h.small⟩
  · rw [World.cell?_setCell_other _ _ _ _ (by simp), h.c0]
  · rw [World.cell?_setCell_other _ _ _ _ (by simp), ex]
theorem Cur.set2 {w : World} {B : Nat} {a : Option Addr} {zs : List Int} {cap : Nat} (h : Cur w B a zs cap) (v : Int) : Cur (w.setCell ⟨B, 2, none⟩ (.int .i64 v)) B a zs cap := by
  have ht : Turn B w (w.setCell ⟨B, 2, none⟩ (.int .i64 v)) := (Turn.refl _ _).setCell 2 _
  obtain ⟨j, hj, e⟩ := h.c1
  obtain ⟨x, ex⟩ := h.c2
  refine ⟨by simpa using h.lt, ?_, ⟨j, hj, ?_⟩, ⟨v, World.cell?_setCell_same _ _ _ ex⟩, fun i => by simpa using h.free i, h.seg.turn ht h.far, h.far, h.byte, h.small⟩
  · rw [World.cell?_setCell_other _ _ _ _ (by simp), h.c0]
  · rw [World.cell?_setCell_other _ _ _ _ (by simp), e]
theorem seg_lt {k : IntKind} {w : World} {a : Option Addr} {zs : List Int} (hs : Seg k w a zs) : ∀ b off, a = some ⟨b, off, none⟩ → 0 < zs.length → b < w.heap.size := by
  intro b off e hz
  obtain ⟨b2, o2, e2, hl2, _⟩ := hs hz
  rw [e] at e2
  injection e2 with e2
  injection e2 with e3
  omega
end Go.Proofs.YtlomcdgfcocmmaaGreatDoor
