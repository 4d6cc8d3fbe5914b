
/-
  Tables as they are drawn: what lies in memory on the way. Conditions: the cursor stands over bytes.
-/
import Derived.Test.YtlomcdgfcocmmaaGreatDoorBas
import Derived.Test.YtlomcdgfcocmmaaGreatDoorDts
import Derived.Test.YtlomcdgfcocmmaaGreatDoorDrw
import Derived.Test.YtlomcdgfcocmmaaGreatDoorDtm
import Derived.Deep.MidRow
namespace Go.Proofs.YtlomcdgfcocmmaaGreatDoor
open Go.ChangeShapes Go.WideShapes Go.ChangeAt Go.RowKit Go.Deep Go.Joins
set_option linter.unusedVariables false

/-- A block that holds tables' cells. -/
def RV (W : World) (V : Nat) (cs : Array Value) : Prop := W.heap[V]? = some (.cells cs 33 (0, 0))
theorem RV.lt {W : World} {V : Nat} {cs : Array Value} (h : RV W V cs) : V < W.heap.size := (Array.getElem?_eq_some_iff.1 h).1
theorem RV.cell {W : World} {V : Nat} {cs : Array Value} (h : RV W V cs) (j : Nat) {v : Value} (hj : cs[j]? = some v) : W.cell? ⟨V, j, none⟩ = some v := by
  unfold RV at h
  simp [World.cell?, h, hj]
theorem RV.free {W : World} {V : Nat} {cs : Array Value} (h : RV W V cs) (j : Nat) : W.frozen? ⟨V, j, none⟩ = false := by
  unfold RV at h
  simp [World.frozen?, h]
theorem RV.turn {W X : World} {V B : Nat} {cs : Array Value} (h : RV W V cs) (ht : Turn B W X) (hn : V ≠ B) : RV X V cs := (ht.block V h.lt hn).trans h
theorem RV.below {W X : World} {V C : Nat} {cs : Array Value} (h : RV W V cs) (hb : Below C W X) (hC : V < C) : RV X V cs := (hb.block V hC).trans h
theorem RV.set {W : World} {V : Nat} {cs cs' : Array Value} (h : RV W V cs) (j : Nat) (v : Value) (e : cs.setIfInBounds j v = cs') : RV (W.setCell ⟨V, j, none⟩ v) V cs' := by
  have hlt := h.lt
  have hv : W.heap[V] = .cells cs 33 (0, 0) := (Array.getElem?_eq_some_iff.1 h).2
  unfold RV World.setCell
  rw [← e]
  simp [hlt, Array.getElem_modify, hv]
theorem RV.other {W : World} {V Y j : Nat} {v : Value} {cs : Array Value} (h : RV W V cs) (hn : V ≠ Y) : RV (W.setCell ⟨Y, j, none⟩ v) V cs := (Below.heap_setCell W ⟨Y, j, none⟩ v V hn).trans h
theorem RV.there {W : World} {V : Nat} {cs : Array Value} (h : RV W V cs) (o n : Nat) (hn : o + n ≤ cs.size) : W.there V o n := fun j hj =>
  ⟨by rw [h.cell (o + j) (Array.getElem?_eq_getElem (by omega))]; rfl, h.free _⟩
/-- The cells of tables whose lists are v1 to v4. -/
abbrev rowT (t : Tb) (v1 v2 v3 v4 : Value) : Array Value := #[.int .i64 t.mem, .int .i64 t.s1, .int .i64 t.s2, .int .i64 t.s3, .int .i64 t.tlb, .int .i64 t.c1, .int .i64 t.c2, .int .i64 t.c3, .int .i64 t.c4, .int .i64 t.c5, .int .i64 t.c6, .int .i64 t.c7, .int .i64 t.pad, .int .i64 t.grd, .int .i64 t.maj, v1, v2, v3, v4]
abbrev nilS : Value := .slice none 0 0
/-- What stands while tables are drawn in the block V. -/
structure Sta (w W : World) (B : Nat) (a : Option Addr) (zs : List Int) (cap V : Nat) (cs : Array Value) : Prop where
  ct : CT w W B a zs cap
  rv : RV W V cs
  r0 : RV W w.heap.size #[.int .i64 0, .int .i64 0, .int .i64 0, .int .i64 0, .int .i64 0, .int .i64 0, .int .i64 0, .int .i64 0, .int .i64 0, .int .i64 0, .int .i64 0, .int .i64 0, .int .i64 0, .int .i64 0, .int .i64 0, .slice none 0 0, .slice none 0 0, .slice none 0 0, .slice none 0 0]
  hV : w.heap.size < V
theorem Sta.step {w W X : World} {B : Nat} {a : Option Addr} {zs : List Int} {cap V : Nat} {cs : Array Value} (h : Sta w W B a zs cap V cs) (hc : Cur X B a zs cap) (ht : Turn B W X) : Sta w X B a zs cap V cs :=
  ⟨h.ct.step hc ht, h.rv.turn ht (by have := h.ct.lo; have := h.hV; omega), h.r0.turn ht (by have := h.ct.lo; omega), h.hV⟩
theorem Sta.belowC {w W X : World} {B C : Nat} {a : Option Addr} {zs : List Int} {cap V : Nat} {cs : Array Value} (h : Sta w W B a zs cap V cs) (hb : Below C W X) (hC : V < C) : Sta w X B a zs cap V cs :=
  ⟨h.ct.belowC (hb.mono (by have := h.hV; omega)), h.rv.below hb hC, h.r0.below hb (by have := h.hV; omega), h.hV⟩
theorem Sta.alloc {w W : World} {B : Nat} {a : Option Addr} {zs : List Int} {cap V : Nat} {cs : Array Value} (h : Sta w W B a zs cap V cs) (o : Obj) : Sta w (W.alloc o) B a zs cap V cs :=
  h.belowC ((Below.refl _ _).alloc (Nat.le_refl _) _) h.rv.lt
theorem Sta.set {w W : World} {B : Nat} {a : Option Addr} {zs : List Int} {cap V : Nat} {cs cs' : Array Value} (h : Sta w W B a zs cap V cs) (j : Nat) (v : Value) (e : cs.setIfInBounds j v = cs') : Sta w (W.setCell ⟨V, j, none⟩ v) B a zs cap V cs' :=
  ⟨h.ct.set V j v (by have := h.hV; omega), h.rv.set j v e, h.r0.other (by have := h.hV; omega), h.hV⟩
theorem Sta.far {w W : World} {B : Nat} {a : Option Addr} {zs : List Int} {cap V : Nat} {cs : Array Value} (h : Sta w W B a zs cap V cs) (Y j : Nat) (v : Value) (hY : V < Y) : Sta w (W.setCell ⟨Y, j, none⟩ v) B a zs cap V cs :=
  ⟨h.ct.set Y j v (by have := h.hV; omega), h.rv.other (by omega), h.r0.other (by have := h.hV; omega), h.hV⟩
theorem Sta.costs {w W : World} {B : Nat} {a : Option Addr} {zs : List Int} {cap V : Nat} {q : Tb} {v1 v2 v3 v4 : Value} (h : Sta w W B a zs cap V (rowT q v1 v2 v3 v4)) (y1 y2 y3 y4 y5 y6 y7 : Int) : Sta w (((((((W.setCell ⟨V, 5, none⟩ (.int .i64 y1)).setCell ⟨V, 6, none⟩ (.int .i64 y2)).setCell ⟨V, 7, none⟩ (.int .i64 y3)).setCell ⟨V, 8, none⟩ (.int .i64 y4)).setCell ⟨V, 9, none⟩ (.int .i64 y5)).setCell ⟨V, 10, none⟩ (.int .i64 y6)).setCell ⟨V, 11, none⟩ (.int .i64 y7)) B a zs cap V (rowT { q with c1 := y1, c2 := y2, c3 := y3, c4 := y4, c5 := y5, c6 := y6, c7 := y7 } v1 v2 v3 v4) := by
  obtain ⟨q0, q1, q2, q3, q4, q5, q6, q7, q8, q9, q10, q11, q12, q13, q14, qa, qb, qc, qd⟩ := q
  have h1 := h.set 5 (.int .i64 y1) (cs' := #[.int .i64 q0, .int .i64 q1, .int .i64 q2, .int .i64 q3, .int .i64 q4, .int .i64 y1, .int .i64 q6, .int .i64 q7, .int .i64 q8, .int .i64 q9, .int .i64 q10, .int .i64 q11, .int .i64 q12, .int .i64 q13, .int .i64 q14, v1, v2, v3, v4]) (by simp)
  have h2 := h1.set 6 (.int .i64 y2) (cs' := #[.int .i64 q0, .int .i64 q1, .int .i64 q2, .int .i64 q3, .int .i64 q4, .int .i64 y1, .int .i64 y2, .int .i64 q7, .int .i64 q8, .int .i64 q9, .int .i64 q10, .int .i64 q11, .int .i64 q12, .int .i64 q13, .int .i64 q14, v1, v2, v3, v4]) (by simp)
  have h3 := h2.set 7 (.int .i64 y3) (cs' := #[.int .i64 q0, .int .i64 q1, .int .i64 q2, .int .i64 q3, .int .i64 q4, .int .i64 y1, .int .i64 y2, .int .i64 y3, .int .i64 q8, .int .i64 q9, .int .i64 q10, .int .i64 q11, .int .i64 q12, .int .i64 q13, .int .i64 q14, v1, v2, v3, v4]) (by simp)
  have h4 := h3.set 8 (.int .i64 y4) (cs' := #[.int .i64 q0, .int .i64 q1, .int .i64 q2, .int .i64 q3, .int .i64 q4, .int .i64 y1, .int .i64 y2, .int .i64 y3, .int .i64 y4, .int .i64 q9, .int .i64 q10, .int .i64 q11, .int .i64 q12, .int .i64 q13, .int .i64 q14, v1, v2, v3, v4]) (by simp)
  have h5 := h4.set 9 (.int .i64 y5) (cs' := #[.int .i64 q0, .int .i64 q1, .int .i64 q2, .int .i64 q3, .int .i64 q4, .int .i64 y1, .int .i64 y2, .int .i64 y3, .int .i64 y4, .int .i64 y5, .int .i64 q10, .int .i64 q11, .int .i64 q12, .int .i64 q13, .int .i64 q14, v1, v2, v3, v4]) (by simp)
  have h6 := h5.set 10 (.int .i64 y6) (cs' := #[.int .i64 q0, .int .i64 q1, .int .i64 q2, .int .i64 q3, .int .i64 q4, .int .i64 y1, .int .i64 y2, .int .i64 y3, .int .i64 y4, .int .i64 y5, .int .i64 y6, .int .i64 q11, .int .i64 q12, .int .i64 q13, .int .i64 q14, v1, v2, v3, v4]) (by simp)
  have h7 := h6.set 11 (.int .i64 y7) (cs' := #[.int .i64 q0, .int .i64 q1, .int .i64 q2, .int .i64 q3, .int .i64 q4, .int .i64 y1, .int .i64 y2, .int .i64 y3, .int .i64 y4, .int .i64 y5, .int .i64 y6, .int .i64 y7, .int .i64 q12, .int .i64 q13, .int .i64 q14, v1, v2, v3, v4]) (by simp)
  exact h7
/-- The n-th partition's part of what is laid: numbers, rows, windows. -/
structure PI (W : World) (V : Nat) (at0 : Int) (j : Nat) (vP : Value) (ps : List Pt) (Y : Nat → Rw) (A : Nat → Int) : Prop where
  len : ps.length = j
  a0 : 0 ≤ A 0 ∧ A 0 ≤ 12 ∧ A 0 % 4 = 0
  aj : A j = at0
  st : ∀ i, i < j → PD i (A i) (ps.getD i pt0) (A (i + 1))
  own : W.ownsRow (V + 1) 72 5 vP j (flr j (fun i => rwL (Y i)))
  good : ∀ i, i < j → Good (V + 1) W (Y i) (ps.getD i pt0)
  apart : ∀ i, i < j → ∀ b off, (Y i).wa = some ⟨b, off, none⟩ → vP.ownBlock ≠ some b
  two : ∀ i k, i < j → k < j → i ≠ k → ∀ b off b' off', (Y i).wa = some ⟨b, off, none⟩ → (Y k).wa = some ⟨b', off', none⟩ → b ≠ b'
theorem PI.far {W : World} {V : Nat} {at0 : Int} {j : Nat} {vP : Value} {ps : List Pt} {Y : Nat → Rw} {A : Nat → Int} (h : PI W V at0 j vP ps Y A) {b : Nat} (hb : W.heap.size ≤ b) : vP.ownBlock ≠ some b ∧ ∀ i, i < j → ∀ b' off, (Y i).wa = some ⟨b', off, none⟩ → 0 < (Y i).wn → b' ≠ b :=
  ⟨fun e => by have := (h.own.lt b e).2; omega, fun i hi b' off e h0 => by
    obtain ⟨c, o, e', _, hlt, _⟩ := (h.good i hi).sg h0
    rw [e] at e'
    cases e'
    omega⟩
theorem GSegL.sets {k lo b o : Nat} {w : World} {v : Value} {a : Option Addr} {n : Nat} {X : Nat → List Value} (h : GSegL k lo w a n X) (hn : ∀ c off, a = some ⟨c, off, none⟩ → 0 < n → c ≠ b) : GSegL k lo (w.setCell ⟨b, o, none⟩ v) a n X := fun h0 => by
  obtain ⟨c, off, e, h1, hlt, hc, hf⟩ := h h0
  have hne := hn c off e h0
  exact ⟨c, off, e, h1, by simpa using hlt, fun i hi => (hc i hi).other (fun e' => hne e'.symm), fun g j => by simpa using hf g j⟩
theorem PI.setb {W : World} {V : Nat} {at0 : Int} {j : Nat} {vP : Value} {ps : List Pt} {Y : Nat → Rw} {A : Nat → Int} (h : PI W V at0 j vP ps Y A) (b o : Nat) (v : Value) (hb : vP.ownBlock ≠ some b ∧ ∀ i, i < j → ∀ b' off, (Y i).wa = some ⟨b', off, none⟩ → 0 < (Y i).wn → b' ≠ b) : PI (W.setCell ⟨b, o, none⟩ v) V at0 j vP ps Y A :=
  ⟨h.len, h.a0, h.aj, h.st, owns_block h.own fun g hg => Below.heap_setCell _ _ _ _ (fun e => hb.1 (by rw [hg, e])), fun i hi => ⟨(h.good i hi).nm, (h.good i hi).en, (h.good i hi).kd, (h.good i hi).ms, (h.good i hi).ln, (h.good i hi).cp, (h.good i hi).sg.sets (hb.2 i hi)⟩, h.apart, h.two⟩
theorem PI.turn {W X : World} {V b : Nat} {at0 : Int} {j : Nat} {vP : Value} {ps : List Pt} {Y : Nat → Rw} {A : Nat → Int} (h : PI W V at0 j vP ps Y A) (ht : Turn b W X) (hb : b ≤ V) : PI X V at0 j vP ps Y A :=
  ⟨h.len, h.a0, h.aj, h.st, owns_turn h.own ht (by omega), fun i hi => (h.good i hi).turn ht (by omega), h.apart, h.two⟩
/-- The names, as they are laid. -/
abbrev nmA : Array Value := #[.string ⟨#[97, 108, 112, 104, 97]⟩, .string ⟨#[98, 101, 116, 97]⟩, .string ⟨#[103, 97, 109, 109, 97]⟩, .string ⟨#[100, 101, 108, 116, 97]⟩, .string ⟨#[101, 112, 115]⟩, .string ⟨#[122, 101, 116, 97]⟩]
theorem nmA_at (j : Nat) (h : j < 4) : nmA[j]? = some (.string (nmL.getD j ByteArray.empty)) := by
  have : j = 0 ∨ j = 1 ∨ j = 2 ∨ j = 3 := by omega
  rcases this with rfl | rfl | rfl | rfl <;> rfl
abbrev rwA (y : Rw) : Array Value := #[.string y.nm, .int .i64 y.en, .int .i64 y.kd, .int .i64 y.ms, .slice y.wa y.wn y.wc]
/-- What stands while a partition's row is begun. -/
structure P7 (wr w : World) (B : Nat) (a : Option Addr) (zs : List Int) (cap : Nat) (j : Nat) (nm : ByteArray) (b0 b1 b2 b3 b4 b5 b6 b7 b8 : Bool) (x56 x57 x58 x59 x60 x61 x62 x8 : Value) : Prop where
  cu : Cur w B a zs cap
  tu : Turn B wr w
  f0 : b0 = true → b8 = false → ∃ g, x56 = .slice (some ⟨g, 0, none⟩) 6 6 ∧ wr.heap.size ≤ g ∧ Bk w g nmA
  f1 : b1 = true → x57 = .int .i64 (j : Int)
  f2 : b2 = true → b8 = false → ∃ g, x58 = .pointer (some ⟨g, j, none⟩) ∧ wr.heap.size ≤ g ∧ Bk w g nmA
  f3 : b3 = true → x59 = .string nm
  f4 : b4 = true → x60 = .pointer (some ⟨B, 0, none⟩)
  f5 : b5 = true → ∃ k m, x61 = pol k m ∧ polOk k m = true
  f6 : b6 = true → ∃ k m, x62 = rwV ⟨nm, 0, k, m, none, 0, 0⟩ ∧ polOk k m = true
  f7 : b7 = true → ∃ b, x8 = .pointer (some ⟨b, 0, none⟩) ∧ wr.heap.size ≤ b ∧ ∃ y, Bk w b (rwA y) ∧ (b8 = true → ∃ k m, y = ⟨nm, 0, k, m, none, 0, 0⟩ ∧ polOk k m = true)
  c2 : b2 = true → b0 = true
  c3 : b3 = true → b2 = true
  c6 : b6 = true → b3 = true
  c8 : b8 = true → b6 = true ∧ b7 = true
theorem P7.move {wr w w' : World} {B : Nat} {a : Option Addr} {zs : List Int} {cap : Nat} {j : Nat} {nm : ByteArray} {b0 b1 b2 b3 b4 b5 b6 b7 b8 : Bool} {x56 x57 x58 x59 x60 x61 x62 x8 : Value} (h : P7 wr w B a zs cap j nm b0 b1 b2 b3 b4 b5 b6 b7 b8 x56 x57 x58 x59 x60 x61 x62 x8) (hB : B < wr.heap.size) (hc : Cur w' B a zs cap) (ht : Turn B w w') : P7 wr w' B a zs cap j nm b0 b1 b2 b3 b4 b5 b6 b7 b8 x56 x57 x58 x59 x60 x61 x62 x8 :=
  ⟨hc, h.tu.trans ht, fun g g' => by obtain ⟨b, e, l, k⟩ := h.f0 g g'; exact ⟨b, e, l, k.turn ht (by omega)⟩, h.f1, fun g g' => by obtain ⟨b, e, l, k⟩ := h.f2 g g'; exact ⟨b, e, l, k.turn ht (by omega)⟩, h.f3, h.f4, h.f5, h.f6, fun g => by obtain ⟨b, e, l, y, k, r⟩ := h.f7 g; exact ⟨b, e, l, y, k.turn ht (by omega), r⟩, h.c2, h.c3, h.c6, h.c8⟩
/-- What stands while the address behind a partition is told. -/
structure P12 (wr w : World) (B : Nat) (a : Option Addr) (zs : List Int) (cap : Nat) (gD : Nat) (u v : Int) (b0 b1 b2 b3 b4 b5 b6 b7 b8 b9 : Bool) (x86 x87 x88 x89 x90 x91 x92 x93 x94 x6 : Value) : Prop where
  cu : Cur w B a zs cap
  tu : Turn B wr w
  f0 : b0 = true → x86 = .pointer (some ⟨gD, 0, none⟩)
  f1 : b1 = true → x87 = .int .i64 u
  f2 : b2 = true → x88 = .pointer (some ⟨gD, 1, none⟩)
  f3 : b3 = true → x89 = .int .i64 v
  f4 : b4 = true → x90 = .int .i64 (u + v)
  f5 : b5 = true → x91 = .pointer (some ⟨B, 0, none⟩)
  f6 : b6 = true → ∃ z : Int, x92 = .int .i64 z ∧ 0 ≤ z ∧ z < 3
  f7 : b7 = true → ∃ z : Int, x93 = .int .i64 (4 * z) ∧ 0 ≤ z ∧ z < 3
  f8 : b8 = true → ∃ z : Int, x94 = .int .i64 (u + v + 4 * z) ∧ 0 ≤ z ∧ z < 3
  f9 : b9 = true → ∃ z : Int, x6 = .int .i64 (u + v + 4 * z) ∧ 0 ≤ z ∧ z < 3
theorem part_info : (Tryz.prog.info? 72).map (fun i => (i.zero, i.size, i.bytes)) = some (some (.agg #[.string ByteArray.empty, .int .i64 0, .int .i64 0, .int .i64 0, .slice none 0 0]), 5, 64) := by kernel_rfl
theorem part_info' : ∃ i, Tryz.prog.info? 72 = some i ∧ i.zero = some (.agg #[.string ByteArray.empty, .int .i64 0, .int .i64 0, .int .i64 0, .slice none 0 0]) ∧ i.size = 5 ∧ i.bytes = 64 := by
  obtain ⟨i, hi, he⟩ := Option.map_eq_some_iff.1 part_info
  simp only [Prod.mk.injEq] at he
  exact ⟨i, hi, he.1, he.2.1, he.2.2⟩
theorem news_of {w : World} {b : Nat} {cs : Array Value} (h : Bk w b cs) : ∀ j u, cs.toList[j]? = some u → w.cell? ((⟨b, 0, none⟩ : Addr).add j) = some u := fun j u hj => by
  rw [Addr.add_mid, Nat.zero_add]
  exact h.cell j u (by simpa using hj)
theorem one_row (y : Rw) : ∀ u ∈ rwL y, u.oneCell' = true := by
  intro u hu
  simp only [rwL, List.mem_cons, List.not_mem_nil, or_false] at hu
  rcases hu with rfl | rfl | rfl | rfl | rfl <;> rfl
theorem wins_seg {w : World} {g lo : Nat} {x1 y1 z1 x2 y2 z2 : Int} (h : Bk w g #[.int .i64 x1, .int .i64 y1, .int .i64 z1, .int .i64 x2, .int .i64 y2, .int .i64 z2]) (hl : lo ≤ g) : GSegL 3 lo w (some ⟨g, 0, none⟩) 2 (wiX [(x1, y1, z1), (x2, y2, z2)]) := fun _ => by
  refine ⟨g, 0, rfl, hl, h.lt, fun i hi j v hj => ?_, fun _ j => h.free j⟩
  have hi2 : i = 0 ∨ i = 1 := by omega
  have hj3 : j < 3 := by
    have := (List.getElem?_eq_some_iff.1 hj).1
    rcases hi2 with rfl | rfl <;> simpa [wiX, wiL] using this
  have hj' : j = 0 ∨ j = 1 ∨ j = 2 := by omega
  rcases hi2 with rfl | rfl <;> rcases hj' with rfl | rfl | rfl <;> exact h.cell _ _ hj
/-- A partition more. -/
theorem PI.push {W X : World} {V : Nat} {at0 at1 : Int} {j : Nat} {vP : Value} {ps : List Pt} {Y : Nat → Rw} {A : Nat → Int} (h : PI W V at0 j vP ps Y A) {nm : ByteArray} {en k m x1 y1 z1 x2 y2 z2 : Int} {g gW cap1 : Nat}
    (hWb : Bk W gW #[.int .i64 x1, .int .i64 y1, .int .i64 z1, .int .i64 x2, .int .i64 y2, .int .i64 z2]) (hgW : V < gW) (hWo : vP.ownBlock ≠ some gW) (hWn : ∀ i, i < j → ∀ b off, (Y i).wa = some ⟨b, off, none⟩ → 0 < (Y i).wn → b ≠ gW)
    (hP : PD j at0 ⟨nm, en, k, m, [(x1, y1, z1), (x2, y2, z2)]⟩ at1)
    (hown : X.ownsRow (V + 1) 72 5 (.slice (some ⟨g, 0, none⟩) (j + 1) cap1) (j + 1) (flr j (fun i => rwL (Y i)) ++ rwL ⟨nm, en, k, m, some ⟨gW, 0, none⟩, 2, 2⟩))
    (hg : W.grownBy X vP.ownBlock) (hat : vP.ownBlock = some g ∨ g = W.heap.size) (v : Value) :
    ∃ ps' Y' A', PI (X.setCell ⟨V, 15, none⟩ v) V at1 (j + 1) (.slice (some ⟨g, 0, none⟩) (j + 1) cap1) ps' Y' A' := by
  have hge : g ≠ gW := by
    rcases hat with e | e
    · exact fun e' => hWo (by rw [e, e'])
    · have := hWb.lt; omega
  have hwn : ∀ i, i < j → (Y i).wn = 2 := fun i hi => by
    obtain ⟨x, y, z, e, _, _, _, _, _, _, _, hws, _⟩ := h.st i hi
    rw [← (h.good i hi).ln, hws]; rfl
  have hbl : ∀ i, i < j → ∀ b off, (Y i).wa = some ⟨b, off, none⟩ → b < W.heap.size := fun i hi b off e => by
    obtain ⟨c, o', e', _, hlt, _⟩ := (h.good i hi).sg (by rw [hwn i hi]; omega)
    rw [e] at e'
    cases e'
    exact hlt
  have hXW : Bk X gW #[.int .i64 x1, .int .i64 y1, .int .i64 z1, .int .i64 x2, .int .i64 y2, .int .i64 z2] := by
    have hb := hg.block gW hWb.lt (fun e => hWo e.symm)
    exact ⟨Nat.lt_of_lt_of_le hWb.lt hg.size, fun i u hu => (World.cell?_of_block (w := W) hb).trans (hWb.cell i u hu), fun i => (World.frozen?_of_block (w := W) hb).trans (hWb.free i)⟩
  refine ⟨ps ++ [⟨nm, en, k, m, [(x1, y1, z1), (x2, y2, z2)]⟩], fun i => if i < j then Y i else ⟨nm, en, k, m, some ⟨gW, 0, none⟩, 2, 2⟩, fun i => if i ≤ j then A i else at1, ⟨by simp [h.len], by simpa using h.a0, if_neg (by omega), fun i hi => ?_, ?_, fun i hi => ?_, fun i hi b off e => ?_, fun i k hi hk hne b off b' off' e1 e2 => ?_⟩⟩
  · by_cases e : i < j
    · have := h.st i e
      simp only [if_pos (show i ≤ j by omega), if_pos (show i + 1 ≤ j by omega)]
      rw [List.getD_eq_getElem?_getD, List.getElem?_append_left (by rw [h.len]; exact e), ← List.getD_eq_getElem?_getD]
      exact this
    · obtain rfl : i = j := by omega
      simp only [if_pos (Nat.le_refl i), if_neg (show ¬ i + 1 ≤ i by omega)]
      rw [h.aj, List.getD_eq_getElem?_getD, List.getElem?_append_right (by rw [h.len]; exact Nat.le_refl _), h.len, Nat.sub_self]
      exact hP
  · refine owns_far ?_ (Nat.lt_succ_self V)
    rw [flr_succ, if_neg (Nat.lt_irrefl j), flr_congr (Y := fun i => rwL (Y i)) (fun i hi => by simp only [if_pos hi])]
    exact hown
  · by_cases e : i < j
    · rw [if_pos e, List.getD_eq_getElem?_getD, List.getElem?_append_left (by rw [h.len]; exact e), ← List.getD_eq_getElem?_getD]
      have hG := h.good i e
      exact ⟨hG.nm, hG.en, hG.kd, hG.ms, hG.ln, hG.cp, (hG.sg.grown hg (fun b off e' => h.apart i e b off e')).other (Nat.lt_succ_self V)⟩
    · obtain rfl : i = j := by omega
      rw [if_neg (Nat.lt_irrefl i), List.getD_eq_getElem?_getD, List.getElem?_append_right (by rw [h.len]; exact Nat.le_refl _), h.len, Nat.sub_self]
      exact ⟨rfl, rfl, rfl, rfl, rfl, Nat.le_refl _, (wins_seg hXW hgW).other (Nat.lt_succ_self V)⟩
  · show some g ≠ some b
    by_cases e' : i < j
    · rw [if_pos e'] at e
      rcases hat with h1 | h1
      · rw [← h1]; exact h.apart i e' b off e
      · have := hbl i e' b off e
        intro h2
        cases h2
        omega
    · rw [if_neg e'] at e
      have : gW = b := by
        have := congrArg (fun o : Option Addr => o.map (fun a => a.block)) e
        simpa using this
      rw [← this]
      intro h2
      exact hge (Option.some.inj h2)
  · have hblk : ∀ {b off : Nat}, (some (⟨gW, 0, none⟩ : Addr) : Option Addr) = some ⟨b, off, none⟩ → gW = b := fun {b off} e => by
      have := congrArg (fun o : Option Addr => o.map (fun a => a.block)) e
      simpa using this
    by_cases c1 : i < j
    · rw [if_pos c1] at e1
      by_cases c2 : k < j
      · rw [if_pos c2] at e2
        exact h.two i k c1 c2 hne b off b' off' e1 e2
      · rw [if_neg c2] at e2
        rw [← hblk e2]
        exact hWn i c1 b off e1 (by rw [hwn i c1]; omega)
    · rw [if_neg c1] at e1
      by_cases c2 : k < j
      · rw [if_pos c2] at e2
        rw [← hblk e1]
        exact fun h2 => hWn k c2 b' off' e2 (by rw [hwn k c2]; omega) h2.symm
      · omega
/-- Of the blocks of 'w' none but 'B' and 'V' is another in 'w''. -/
structure Tw (B V : Nat) (w w' : World) : Prop where
  size : w.heap.size ≤ w'.heap.size
  block : ∀ k, k < w.heap.size → k ≠ B → k ≠ V → w'.heap[k]? = w.heap[k]?
theorem Tw.refl (B V : Nat) (w : World) : Tw B V w w := ⟨Nat.le_refl _, fun _ _ _ _ => rfl⟩
theorem Tw.turn {B V b : Nat} {w0 w w' : World} (h : Tw B V w0 w) (ht : Turn b w w') (hb : b = B ∨ b = V) : Tw B V w0 w' :=
  ⟨Nat.le_trans h.size ht.size, fun k hk h1 h2 => (ht.block k (Nat.lt_of_lt_of_le hk h.size) (by omega)).trans (h.block k hk h1 h2)⟩
theorem Tw.below {B V C : Nat} {w0 w w' : World} (h : Tw B V w0 w) (hb : Below C w w') (hC : w0.heap.size ≤ C) : Tw B V w0 w' :=
  ⟨Nat.le_trans h.size hb.size, fun k hk h1 h2 => (hb.block k (by omega)).trans (h.block k hk h1 h2)⟩
theorem GSegL.tw {B V k lo : Nat} {w w' : World} {a : Option Addr} {n : Nat} {X : Nat → List Value} (h : GSegL k lo w a n X) (ht : Tw B V w w') (hB : B < lo) (hV : V < lo) : GSegL k lo w' a n X := fun h0 => by
  obtain ⟨c, off, e, h1, hlt, hc, hf⟩ := h h0
  have hb := ht.block c hlt (by omega) (by omega)
  exact ⟨c, off, e, h1, Nat.lt_of_lt_of_le hlt ht.size, fun i hi => (hc i hi).of (fun j => World.cell?_of_block (w := w) hb), fun g j => (World.frozen?_of_block (w := w) hb).trans (hf g j)⟩
/-- Partitions as they lie, all drawn. -/
structure PF (W : World) (V : Nat) (N : Nat) (mem : Int) (vP : Value) (ps : List Pt) (Y : Nat → Rw) (aP : Option Addr) (cP : Nat) : Prop where
  len : ps.length = N
  v : vP = .slice aP N cP
  cap : N ≤ cP
  dr : ∃ A, PDs ps A ∧ mem = A ps.length + 64
  sg : GSegL 5 (V + 1) W aP N (fun i => rwL (Y i))
  good : ∀ i, i < N → Good (V + 1) W (Y i) (ps.getD i pt0)
  own : W.ownsRow (V + 1) 72 5 vP N (flr N (fun i => rwL (Y i)))
  ap : ∀ i, i < N → ∀ b off, (Y i).wa = some ⟨b, off, none⟩ → vP.ownBlock ≠ some b
  two : ∀ i k, i < N → k < N → i ≠ k → ∀ b off b' off', (Y i).wa = some ⟨b, off, none⟩ → (Y k).wa = some ⟨b', off', none⟩ → b ≠ b'
theorem owns_tw {W X : World} {B V k n : Nat} {e : TypeId} {v : Value} {xs : List Value} (h : W.ownsRow (V + 1) e k v n xs) (ht : Tw B V W X) (hB : B ≤ V) : X.ownsRow (V + 1) e k v n xs :=
  owns_block h fun g hg => ht.block g (h.lt g hg).2 (by have := (h.lt g hg).1; omega) (by have := (h.lt g hg).1; omega)
theorem owns_low {W : World} {lo lo' k n : Nat} {e : TypeId} {v : Value} {xs : List Value} (h : W.ownsRow lo e k v n xs) (hl : lo' ≤ lo) : W.ownsRow lo' e k v n xs := by
  refine ⟨h.1, ?_⟩
  rcases h.2 with hn | ⟨g, cap, cur, e, hb, rest⟩
  · exact .inl hn
  · exact .inr ⟨g, cap, cur, e, by omega, rest⟩
theorem PF.tw {W X : World} {B V N : Nat} {mem : Int} {vP : Value} {ps : List Pt} {Y : Nat → Rw} {aP : Option Addr} {cP : Nat} (h : PF W V N mem vP ps Y aP cP) (ht : Tw B V W X) (hB : B ≤ V) : PF X V N mem vP ps Y aP cP :=
  ⟨h.len, h.v, h.cap, h.dr, h.sg.tw ht (by omega) (by omega), fun i hi => ⟨(h.good i hi).nm, (h.good i hi).en, (h.good i hi).kd, (h.good i hi).ms, (h.good i hi).ln, (h.good i hi).cp, (h.good i hi).sg.tw ht (by omega) (by omega)⟩, owns_tw h.own ht hB, h.ap, h.two⟩
theorem PI.fin {W : World} {V : Nat} {at0 : Int} {N : Nat} {vP : Value} {ps : List Pt} {Y : Nat → Rw} {A : Nat → Int} (h : PI W V at0 N vP ps Y A) : ∃ aP cP, PF W V N (at0 + 64) vP ps Y aP cP := by
  obtain ⟨aP, cP, h1, h2, h3⟩ := owns_seg h.own (fun i hi => rfl)
  exact ⟨aP, cP, h.len, h1, h2, ⟨A, ⟨h.a0, fun i hi => h.st i (by rw [← h.len]; exact hi)⟩, by rw [h.len, h.aj]⟩, h3, h.good, h.own, h.apart, h.two⟩
/-- A list apart from rows and their windows. -/
def Ap (vP : Value) (Y : Nat → Rw) (N : Nat) (v : Value) : Prop := ∀ g, v.ownBlock = some g → vP.ownBlock ≠ some g ∧ ∀ i, i < N → 0 < (Y i).wn → ∀ b off, (Y i).wa = some ⟨b, off, none⟩ → b ≠ g
theorem PF.ap_new {W : World} {V N : Nat} {mem : Int} {vP v : Value} {ps : List Pt} {Y : Nat → Rw} {aP : Option Addr} {cP : Nat} (h : PF W V N mem vP ps Y aP cP) (hg : ∀ g, v.ownBlock = some g → W.heap.size ≤ g) : Ap vP Y N v := fun g e => by
  have h1 := hg g e
  refine ⟨fun h2 => by have := (h.own.lt g h2).2; omega, fun i hi h0 b off e2 e3 => ?_⟩
  obtain ⟨c, o, e', _, hlt, _⟩ := (h.good i hi).sg h0
  rw [e2] at e'
  cases e'
  omega
/-- What stands while an element is put behind a list of the tables. -/
structure PA (w W2 : World) (B : Nat) (a : Option Addr) (zs : List Int) (cap V OFF L2 : Nat) (T : TypeId) (K N : Nat) (R : Value → Array Value) (Q : List Value → Prop) (EV : List Value → Value) (vL : Value) (i : Nat) (xs : List Value) (w' : World) (b0 b1 b2 b3 b4 b5 b6 b7 b8 : Bool) (x0 x1 x2 x3 x4 x5 x6 x7 : Value) : Prop where
  tw : Tw B V W2 w'
  st : b8 = false → Sta w w' B a zs cap V (R vL)
  ow : b6 = false → w'.ownsRow L2 T K vL i xs
  f0 : b0 = true → x0 = .pointer (some ⟨V, OFF, none⟩)
  f1 : b1 = true → x1 = vL
  f2 : b2 = true → x2 = .pointer (some ⟨B, 0, none⟩)
  f3 : b3 = true → x3 = .int .i64 (N : Int)
  f4 : b4 = true → ∃ cs, x4 = EV cs ∧ Q cs
  f5 : b5 = true → ∃ ge cs, x5 = .slice (some ⟨ge, 0, none⟩) 1 1 ∧ Q cs ∧ (b6 = false → Bk w' ge cs.toArray)
  f6 : b6 = true → ∃ g c cs, x6 = .slice (some ⟨g, 0, none⟩) (i + 1) c ∧ Q cs ∧ w'.ownsRow L2 T K (.slice (some ⟨g, 0, none⟩) (i + 1) c) (i + 1) (xs ++ cs)
  f7 : b7 = true → x7 = .pointer (some ⟨V, OFF, none⟩)
  f8 : b8 = true → Sta w w' B a zs cap V (R x6)
  c5 : b5 = true → b4 = true
  c6 : b6 = true → b1 = true ∧ b5 = true
  c8 : b8 = true → b6 = true
/-- A list of the tables on the way. -/
structure LI (w W2 : World) (B : Nat) (a : Option Addr) (zs : List Int) (cap V L2 : Nat) (T : TypeId) (K : Nat) (R : Value → Array Value) (Q : List Value → Prop) (wr : World) (vL : Value) (es : List (List Value)) (i : Nat) : Prop where
  len : es.length = i
  q : ∀ e ∈ es, Q e
  own : wr.ownsRow L2 T K vL i es.flatten
  tw : Tw B V W2 wr
  st : Sta w wr B a zs cap V (R vL)
theorem int_info' : ∃ i, Tryz.prog.info? 3 = some i ∧ i.zero = some (.int .i64 0) ∧ i.size = 1 ∧ i.bytes = 8 := by
  obtain ⟨i, hi, he⟩ := Option.map_eq_some_iff.1 (show (Tryz.prog.info? 3).map (fun i => (i.zero, i.size, i.bytes)) = some (some (.int .i64 0), 1, 8) by kernel_rfl)
  simp only [Prod.mk.injEq] at he
  exact ⟨i, hi, he.1, he.2.1, he.2.2⟩
theorem flat_flr (n : Nat) (es : List (List Value)) (h : es.length = n) : es.flatten = flr n (fun k => es.getD k []) := by
  have hm : (List.range n).map (fun k => es.getD k []) = es := List.ext_getElem (by simp [h]) (fun i h1 h2 => by simp [List.getD_eq_getElem?_getD, List.getElem?_eq_getElem h2])
  unfold flr
  rw [List.flatMap_def, hm]
theorem GSegL.congr {k lo : Nat} {w : World} {a : Option Addr} {n : Nat} {X Y : Nat → List Value} (h : GSegL k lo w a n X) (he : ∀ i, i < n → X i = Y i) : GSegL k lo w a n Y := fun h0 => by
  obtain ⟨b, off, e, h1, hlt, hc, hf⟩ := h h0
  exact ⟨b, off, e, h1, hlt, fun i hi => by rw [← he i hi]; exact hc i hi, hf⟩
theorem LI.seg {w W2 : World} {B : Nat} {a : Option Addr} {zs : List Int} {cap V L2 : Nat} {T : TypeId} {K : Nat} {R : Value → Array Value} {Q : List Value → Prop} {wr : World} {vL : Value} {es : List (List Value)} {i : Nat} (h : LI w W2 B a zs cap V L2 T K R Q wr vL es i) (hK : ∀ e, Q e → e.length = K) :
    ∃ aL cL, vL = .slice aL i cL ∧ i ≤ cL ∧ GSegL K L2 wr aL i (fun k => es.getD k []) := by
  have hown := h.own
  rw [flat_flr i es h.len] at hown
  refine owns_seg hown (fun k hk => hK _ (h.q _ ?_))
  have hk' : k < es.length := by rw [h.len]; exact hk
  rw [List.getD_eq_getElem?_getD, List.getElem?_eq_getElem hk']
  exact List.getElem_mem hk'
def devOf : List Value → Int
  | [.int _ y] => y
  | _ => 0
def chOf : List Value → chT
  | [.int _ k, .int _ f, .int _ t, .int _ d] => (k, f, t, d)
  | _ => ch0
theorem LI.at {w W2 : World} {B : Nat} {a : Option Addr} {zs : List Int} {cap V L2 : Nat} {T : TypeId} {K : Nat} {R : Value → Array Value} {Q : List Value → Prop} {wr : World} {vL : Value} {es : List (List Value)} {i : Nat} (h : LI w W2 B a zs cap V L2 T K R Q wr vL es i) (k : Nat) (hk : k < i) : Q (es.getD k []) := by
  have hk' : k < es.length := by rw [h.len]; exact hk
  refine h.q _ ?_
  rw [List.getD_eq_getElem?_getD, List.getElem?_eq_getElem hk']
  exact List.getElem_mem hk'
theorem map_getD {β : Type} (es : List (List Value)) (f : List Value → β) (d : β) (k : Nat) (hk : k < es.length) : (es.map f).getD k d = f (es.getD k []) := by
  rw [List.getD_eq_getElem?_getD, List.getElem?_map, List.getD_eq_getElem?_getD, List.getElem?_eq_getElem hk]
  rfl
/-- Devices as they lie, all drawn. -/
structure DF (W : World) (V N : Nat) (vD : Value) (ds : List Int) (aD : Option Addr) (cD : Nat) : Prop where
  v : vD = .slice aD ds.length cD
  cap : ds.length ≤ cD
  few : ds.length ≤ 3
  rng : ∀ k, k < ds.length → 0 ≤ ds.getD k 0 ∧ ds.getD k 0 < (N : Int)
  sg : GSegL 1 (V + 1) W aD ds.length (inX ds)
  own : W.ownsRow (V + 1) 3 1 vD ds.length (flr ds.length (inX ds))
theorem DF.tw {W X : World} {B V N : Nat} {vD : Value} {ds : List Int} {aD : Option Addr} {cD : Nat} (h : DF W V N vD ds aD cD) (ht : Tw B V W X) (hB : B ≤ V) : DF X V N vD ds aD cD := ⟨h.v, h.cap, h.few, h.rng, h.sg.tw ht (by omega) (by omega), owns_tw h.own ht hB⟩
theorem LI.devs {w W2 : World} {B : Nat} {a : Option Addr} {zs : List Int} {cap V L2 N : Nat} {T : TypeId} {R : Value → Array Value} {Q : List Value → Prop} {wr : World} {vL : Value} {es : List (List Value)} {i : Nat} (h : LI w W2 B a zs cap V L2 T 1 R Q wr vL es i) (hQ : Q = fun cs => ∃ y : Int, cs = [.int .i64 y] ∧ 0 ≤ y ∧ y < (N : Int)) (hi : i ≤ 3) (hV : V < L2) (hT : T = 3 := by rfl) : ∃ ds aD cD, DF wr V N vL ds aD cD := by
  subst hQ hT
  obtain ⟨aD, cD, h1, h2, h3⟩ := h.seg (fun e he => by obtain ⟨y, e', _⟩ := he; rw [e']; rfl)
  have hl : (es.map devOf).length = i := by simp [h.len]
  have hg : ∀ k, k < i → ∃ y : Int, es.getD k [] = [.int .i64 y] ∧ (es.map devOf).getD k 0 = y ∧ 0 ≤ y ∧ y < (N : Int) := fun k hk => by
    obtain ⟨y, e', r⟩ := h.at k hk
    exact ⟨y, e', by rw [map_getD _ _ _ _ (by rw [h.len]; exact hk), e']; rfl, r⟩
  refine ⟨es.map devOf, aD, cD, by rw [hl]; exact h1, by rw [hl]; exact h2, by rw [hl]; exact hi, fun k hk => ?_, ?_, ?_⟩
  · rw [hl] at hk
    obtain ⟨y, _, e2, r⟩ := hg k hk
    rw [e2]; exact r
  · rw [hl]
    refine (h3.congr fun k hk => ?_).wide hV
    obtain ⟨y, e1, e2, _⟩ := hg k hk
    show es.getD k [] = [.int .i64 ((es.map devOf).getD k 0)]
    rw [e1, e2]
  · rw [hl]
    have ho := h.own
    rw [flat_flr i es h.len, flr_congr (Y := inX (es.map devOf)) (fun k hk => by obtain ⟨y, e1, e2, _⟩ := hg k hk; show es.getD k [] = [.int .i64 ((es.map devOf).getD k 0)]; rw [e1, e2])] at ho
    exact owns_low ho hV
/-- Channels as they lie, all drawn. -/
structure CF (W : World) (V N : Nat) (vC : Value) (cs : List chT) (aC : Option Addr) (cC : Nat) : Prop where
  v : vC = .slice aC cs.length cC
  cap : cs.length ≤ cC
  few : cs.length ≤ 4
  rng : ∀ k, k < cs.length → chOkT (cs.getD k ch0) = true ∧ (0 ≤ (cs.getD k ch0).2.1 ∧ (cs.getD k ch0).2.1 < (N : Int)) ∧ (0 ≤ (cs.getD k ch0).2.2.1 ∧ (cs.getD k ch0).2.2.1 < (N : Int))
  sg : GSegL 4 (V + 1) W aC cs.length (chX cs)
  own : W.ownsRow (V + 1) 76 4 vC cs.length (flr cs.length (chX cs))
theorem CF.tw {W X : World} {B V N : Nat} {vD : Value} {ds : List chT} {aD : Option Addr} {cD : Nat} (h : CF W V N vD ds aD cD) (ht : Tw B V W X) (hB : B ≤ V) : CF X V N vD ds aD cD := ⟨h.v, h.cap, h.few, h.rng, h.sg.tw ht (by omega) (by omega), owns_tw h.own ht hB⟩
def chQ (N : Nat) (cs : List Value) : Prop := ∃ k f t d : Int, cs = [.int .i64 k, .int .i64 f, .int .i64 t, .int .i64 d] ∧ (chOk k f t d = true ∧ (0 ≤ f ∧ f < (N : Int)) ∧ (0 ≤ t ∧ t < (N : Int)))
theorem LI.chans {w W2 : World} {B : Nat} {a : Option Addr} {zs : List Int} {cap V L2 N : Nat} {T : TypeId} {R : Value → Array Value} {Q : List Value → Prop} {wr : World} {vL : Value} {es : List (List Value)} {i : Nat} (h : LI w W2 B a zs cap V L2 T 4 R Q wr vL es i) (hQ : Q = chQ N) (hi : i ≤ 4) (hV : V < L2) (hT : T = 76 := by rfl) : ∃ cs aD cD, CF wr V N vL cs aD cD := by
  subst hQ hT
  obtain ⟨aD, cD, h1, h2, h3⟩ := h.seg (fun e he => by obtain ⟨k, f, t, d, e', _⟩ := he; rw [e']; rfl)
  have hl : (es.map chOf).length = i := by simp [h.len]
  have hg : ∀ k, k < i → ∃ x : chT, es.getD k [] = chL x ∧ (es.map chOf).getD k ch0 = x ∧ chOkT x = true ∧ (0 ≤ x.2.1 ∧ x.2.1 < (N : Int)) ∧ (0 ≤ x.2.2.1 ∧ x.2.2.1 < (N : Int)) := fun k hk => by
    obtain ⟨kk, f, t, d, e', r⟩ := h.at k hk
    exact ⟨(kk, f, t, d), e', by rw [map_getD _ _ _ _ (by rw [h.len]; exact hk), e']; rfl, r⟩
  refine ⟨es.map chOf, aD, cD, by rw [hl]; exact h1, by rw [hl]; exact h2, by rw [hl]; exact hi, fun k hk => ?_, ?_, ?_⟩
  · rw [hl] at hk
    obtain ⟨x, _, e2, r⟩ := hg k hk
    rw [e2]; exact r
  · rw [hl]
    refine (h3.congr fun k hk => ?_).wide hV
    obtain ⟨x, e1, e2, _⟩ := hg k hk
    show es.getD k [] = chL ((es.map chOf).getD k ch0)
    rw [e1, e2]
  · rw [hl]
    have ho := h.own
    rw [flat_flr i es h.len, flr_congr (Y := chX (es.map chOf)) (fun k hk => by obtain ⟨x, e1, e2, _⟩ := hg k hk; show es.getD k [] = chL ((es.map chOf).getD k ch0); rw [e1, e2])] at ho
    exact owns_low ho hV
theorem chan_info' : ∃ i, Tryz.prog.info? 76 = some i ∧ i.zero = some (.agg #[.int .i64 0, .int .i64 0, .int .i64 0, .int .i64 0]) ∧ i.size = 4 ∧ i.bytes = 32 := by
  obtain ⟨i, hi, he⟩ := Option.map_eq_some_iff.1 (show (Tryz.prog.info? 76).map (fun i => (i.zero, i.size, i.bytes)) = some (some (.agg #[.int .i64 0, .int .i64 0, .int .i64 0, .int .i64 0]), 4, 32) by kernel_rfl)
  simp only [Prod.mk.injEq] at he
  exact ⟨i, hi, he.1, he.2.1, he.2.2⟩
theorem costs_drawn {c1 c2 c3 c4 c5 c6 c7 : Int} (h1 : 1 ≤ c1 ∧ c1 ≤ 2) (h2 : 0 ≤ c2 ∧ c2 ≤ 3) (h3 : 0 ≤ c3 ∧ c3 ≤ 2) (h4 : 0 ≤ c4 ∧ c4 ≤ 5) (h5 : 0 ≤ c5 ∧ c5 ≤ 3) (h6 : 0 ≤ c6 ∧ c6 ≤ 2) (h7 : 0 ≤ c7 ∧ c7 ≤ 2) : costsOk c1 c2 c3 c4 c5 c6 c7 = true := by
  unfold costsOk
  rw [inr_yes (by omega), inr_yes (by omega), inr_yes (by omega), inr_yes (by omega), inr_yes (by omega), inr_yes (by omega), inr_yes (by omega)]
  rfl
theorem worst_drawn {c1 c2 c3 c4 c5 c6 c7 : Int} (h1 : 1 ≤ c1 ∧ c1 ≤ 2) (h2 : 0 ≤ c2 ∧ c2 ≤ 3) (h3 : 0 ≤ c3 ∧ c3 ≤ 2) (h4 : 0 ≤ c4 ∧ c4 ≤ 5) (h5 : 0 ≤ c5 ∧ c5 ≤ 3) (h6 : 0 ≤ c6 ∧ c6 ≤ 2) (h7 : 0 ≤ c7 ∧ c7 ≤ 2) : 1 ≤ worstStep c1 c2 c3 c4 c5 c6 c7 ∧ worstStep c1 c2 c3 c4 c5 c6 c7 ≤ 92 := by
  have hc := costs_drawn h1 h2 h3 h4 h5 h6 h7
  have hm := mostOp_range hc
  have h0 := (opC_range hc 0).1
  have h8 : opC c1 c2 c3 c6 0 ≤ mostOp c1 c2 c3 c6 := most_mem _ _ _ (by unfold ocs; exact List.mem_map.2 ⟨0, by simp, rfl⟩)
  unfold worstStep
  rw [if_pos hc]
  omega
theorem pad_drawn {c1 c7 s1 s2 : Int} {cs : List chT} (h1 : 1 ≤ c1 ∧ c1 ≤ 2) (h7 : 0 ≤ c7 ∧ c7 ≤ 2) (hs1 : s1 = 1 ∨ s1 = 2 ∨ s1 = 4) (hs2 : s2 = 1 ∨ s2 = 2) (hl : cs.length ≤ 4) (hc : allCh cs cs.length) : 16 ≤ c1 * (16 + mostN cs cs.length) + c7 * (s1 * s2) ∧ c1 * (16 + mostN cs cs.length) + c7 * (s1 * s2) ≤ 112 := by
  have hm := most_rng hc cs.length (Nat.le_refl _)
  generalize mostN cs cs.length = M at hm
  have e1 : c1 = 1 ∨ c1 = 2 := by omega
  have e7 : c7 = 0 ∨ c7 = 1 ∨ c7 = 2 := by omega
  rcases e1 with e1 | e1 <;> rcases e7 with e7 | e7 | e7 <;> rcases hs1 with e2 | e2 | e2 <;> rcases hs2 with e3 | e3 <;> rw [e1, e7, e2, e3] <;> omega
end Go.Proofs.YtlomcdgfcocmmaaGreatDoor
