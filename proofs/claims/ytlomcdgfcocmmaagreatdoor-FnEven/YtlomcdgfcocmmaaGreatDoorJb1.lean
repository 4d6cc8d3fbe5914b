/-
  Marks that a law lays into tables of its own, as they then stand, and that tables still hold them. Conditions: the lists lie in blocks of their own, apart from each other, which may be written.
  Tables of a call's own, marked and held. Conditions: the lists lie in blocks apart from each other, which may be written; lengths are at most 1048576.
  The program's copies of the lists of tables: each in a block of its own. Conditions: at most 1048576 elements.
  The program's copy of tables: every list in a block of its own. Conditions: the lists lie in memory; lengths are at most 1048576.
  A list appended to rows that a call owns, be it empty or not; lists within a range of blocks, and what keeps them. Conditions: those that each fact names.
-/
import Derived.Test.YtlomcdgfcocmmaaGreatDoorBas
import Derived.Test.YtlomcdgfcocmmaaGreatDoorMkt
import Derived.Test.YtlomcdgfcocmmaaGreatDoorLsw
import Derived.Laws.CopyOwn
import Derived.OwnWalk
import Derived.Deep.AppendLies
import Derived.Test.YtlomcdgfcocmmaaGreatDoorRul
namespace Go.Proofs.YtlomcdgfcocmmaaGreatDoor
open Go.ChangeShapes Go.WideShapes Go.ChangeAt Go.RowKit Go.Deep Go.Joins
set_option linter.unusedVariables false

/-- A mark of 1 numbers. -/
def mk1 (K0 : Int) (i : Nat) : List Value := [.int .i64 (K0 + 1 * (i : Int))]
/-- A mark of 3 numbers. -/
def mk3 (K0 : Int) (i : Nat) : List Value := [.int .i64 (K0 + 3 * (i : Int)), .int .i64 (K0 + 3 * (i : Int) + 1), .int .i64 (K0 + 3 * (i : Int) + 2)]
/-- A mark of 4 numbers. -/
def mk4 (K0 : Int) (i : Nat) : List Value := [.int .i64 (K0 + 4 * (i : Int)), .int .i64 (K0 + 4 * (i : Int) + 1), .int .i64 (K0 + 4 * (i : Int) + 2), .int .i64 (K0 + 4 * (i : Int) + 3)]
theorem GSeg.mkd {k l1 h1 lo hi n : Nat} {w0 w w' : World} {a : Option Addr} {X : Nat → List Value} (h : GSeg k w a n X) (r : WR k l1 h1 w0 a n) (hl : w0.heap.size ≤ w.heap.size) (g : Mk lo hi w w') (hd : h1 ≤ lo ∨ hi ≤ l1) : GSeg k w' a n X := fun h0 => by
  obtain ⟨b, off, e, q1, q2, q3, _⟩ := r h0
  obtain ⟨b', off', e', q4, q5⟩ := h h0
  rw [e] at e'
  cases e'
  have hbl : w'.heap[b]? = w.heap[b]? := g.b.block b q4 (by omega)
  exact ⟨b, off, e, Nat.lt_of_lt_of_le q4 g.b.size, fun i hin => (q5 i hin).of (fun j => World.cell?_of_block (a := ⟨b, j, none⟩) hbl)⟩
theorem Mk.wide {l1 h1 lo hi : Nat} {w w' : World} (h : Mk l1 h1 w w') (g1 : lo ≤ l1) (g2 : h1 ≤ hi) : Mk lo hi w w' := ⟨⟨h.b.os, h.b.tape, h.b.output, h.b.size, fun k hk ho => h.b.block k hk (by omega)⟩, h.c, h.f⟩
/-- The text of a mark. -/
def txs : Nat → Int → ByteArray → ByteArray
  | 0, _, s => s
  | m + 1, K, s => if 0 < K then txs m (K / 10) ((⟨#[UInt8.ofNat (48 + K % 10).toNat]⟩ : ByteArray) ++ s) else s
def tx (k : Int) : ByteArray := if k ≤ 0 then (⟨#[109, 48]⟩ : ByteArray) else (⟨#[109]⟩ : ByteArray) ++ txs 20 k ByteArray.empty
theorem txs_end (m : Nat) {K : Int} (s : ByteArray) (h : ¬ 0 < K) : txs m K s = s := by
  cases m with
  | zero => rfl
  | succ m => rw [txs, if_neg h]
end Go.Proofs.YtlomcdgfcocmmaaGreatDoor
namespace Go.Proofs.YtlomcdgfcocmmaaGreatDoor
open Go.ChangeShapes Go.WideShapes Go.ChangeAt Go.RowKit Go.Deep Go.Joins
set_option linter.unusedVariables false

/-- Partitions in blocks of their own, apart from each other: the rows in one, the windows of each in a range behind it. -/
structure OP (lo hi : Nat) (w : World) (a : Option Addr) (n : Nat) (Y : Nat → Rw) : Prop where
  r : WR 5 lo hi w a n
  g : ∀ b off, a = some ⟨b, off, none⟩ → ∀ i, i < n → w.cell? ⟨b, off + i * 5 + 4, none⟩ = some (.slice (Y i).wa (Y i).wn (Y i).wc)
  v : ∀ b off, a = some ⟨b, off, none⟩ → 0 < n → ∃ β : Nat → Nat, b + 1 ≤ β 0 ∧ (∀ i j, i ≤ j → j ≤ n → β i ≤ β j) ∧ β n ≤ hi ∧ ∀ i, i < n → WR 3 (β i) (β (i + 1)) w (Y i).wa (Y i).wn
/-- The number at which the marks of partition i begin. -/
def Kp (Y : Nat → Rw) (K0 : Int) : Nat → Int
  | 0 => K0
  | i + 1 => Kp Y K0 i + 4 + 3 * ((Y i).wn : Int)
/-- A marked row. -/
def rowM (Y : Nat → Rw) (K0 : Int) (i : Nat) : List Value := [.string (tx (Kp Y K0 i)), .int .i64 (Kp Y K0 i + 1), .int .i64 (Kp Y K0 i + 2), .int .i64 (Kp Y K0 i + 3), .slice (Y i).wa (Y i).wn (Y i).wc]
/-- Partitions as they are marked. -/
structure HP (w : World) (a : Option Addr) (n : Nat) (Y : Nat → Rw) (K0 : Int) : Prop where
  r : GSeg 5 w a n (rowM Y K0)
  v : ∀ i, i < n → GSeg 3 w (Y i).wa (Y i).wn (mk3 (Kp Y K0 i + 4))
theorem HP.below {w w' : World} {a : Option Addr} {n : Nat} {Y : Nat → Rw} {K0 : Int} (h : HP w a n Y K0) (hb : Below w.heap.size w w') : HP w' a n Y K0 := ⟨h.r.below hb, fun i hi => (h.v i hi).below hb⟩
theorem Kp_le (Y : Nat → Rw) (K0 : Int) (n : Nat) (hw : ∀ i, i < n → (Y i).wn ≤ 1048576) (h0 : 0 ≤ K0) (h1 : K0 ≤ 1000) : ∀ m, m ≤ n → 0 ≤ Kp Y K0 m ∧ Kp Y K0 m ≤ 1000 + 3145732 * (m : Int) := by
  intro m
  induction m with
  | zero => intro _; exact ⟨h0, by simp only [Kp]; omega⟩
  | succ m ih =>
    intro hm
    have := ih (by omega)
    have := hw m (by omega)
    simp only [Kp]
    omega
/-- Tables whose lists lie in blocks of [lo, hi) that may be written, apart from each other. -/
def OTa (lo hi : Nat) (w : World) (a : Ad) : Prop := ∃ h1 h2 h3, h1 ≤ h2 ∧ h2 ≤ h3 ∧ h3 ≤ hi ∧ lo ≤ h1 ∧ OP lo h1 w a.pa a.pn a.Y ∧ WR 1 h1 h2 w a.da a.dn ∧ WR 4 h2 h3 w a.ca a.cn ∧ WR 3 h3 hi w a.sa a.sn
theorem OP.below {lo hi : Nat} {w w' : World} {a : Option Addr} {n : Nat} {Y : Nat → Rw} (h : OP lo hi w a n Y) (hb : Below w.heap.size w w') : OP lo hi w' a n Y :=
  ⟨h.r.below hb, fun b off e i hi => kept_cell hb (h.g b off e i hi), fun b off e h0 => by
    obtain ⟨β, q1, q2, q3, q4⟩ := h.v b off e h0
    exact ⟨β, q1, q2, q3, fun i hi => (q4 i hi).below hb⟩⟩
theorem OP.mkk {lo hi l1 h1 : Nat} {w w' : World} {a : Option Addr} {n : Nat} {Y : Nat → Rw} (h : OP lo hi w a n Y) (g : Mk l1 h1 w w') (hd : hi ≤ l1 ∨ h1 ≤ lo) : OP lo hi w' a n Y :=
  ⟨h.r.mk g, fun b off e i hin => by
    obtain ⟨b', off', e', q1, q2, q3, _⟩ := h.r (by omega)
    rw [e] at e'
    cases e'
    exact (g.b.cell (p := ⟨b, off + i * 5 + 4, none⟩) q3 (by show b < l1 ∨ h1 ≤ b; omega)).trans (h.g b off e i hin), fun b off e h0 => by
    obtain ⟨β, q1, q2, q3, q4⟩ := h.v b off e h0
    exact ⟨β, q1, q2, q3, fun i hi => (q4 i hi).mk g⟩⟩
theorem OTa.below {lo hi : Nat} {w w' : World} {a : Ad} (h : OTa lo hi w a) (hb : Below w.heap.size w w') : OTa lo hi w' a := by
  obtain ⟨h1, h2, h3, q1, q2, q3, q4, q5, q6, q7, q8⟩ := h
  exact ⟨h1, h2, h3, q1, q2, q3, q4, q5.below hb, q6.below hb, q7.below hb, q8.below hb⟩
theorem OTa.mkk {lo hi l1 h1 : Nat} {w w' : World} {a : Ad} (h : OTa lo hi w a) (g : Mk l1 h1 w w') (hd : hi ≤ l1 ∨ h1 ≤ lo) : OTa lo hi w' a := by
  obtain ⟨k1, k2, k3, q1, q2, q3, q4, q5, q6, q7, q8⟩ := h
  exact ⟨k1, k2, k3, q1, q2, q3, q4, q5.mkk g (by omega), q6.mk g, q7.mk g, q8.mk g⟩
/-- Tables as they are marked from 1 on. -/
structure HTb (w : World) (a : Ad) : Prop where
  p : HP w a.pa a.pn a.Y 1
  d : GSeg 1 w a.da a.dn (mk1 (Kp a.Y 1 a.pn))
  c : GSeg 4 w a.ca a.cn (mk4 (Kp a.Y 1 a.pn + 1 * (a.dn : Int)))
  s : GSeg 3 w a.sa a.sn (mk3 (Kp a.Y 1 a.pn + 1 * (a.dn : Int) + 4 * (a.cn : Int)))
/-- The number behind the last mark. -/
def Kz (a : Ad) : Int := Kp a.Y 1 a.pn + 1 * (a.dn : Int) + 4 * (a.cn : Int) + 3 * (a.sn : Int)
theorem HTb.below {w w' : World} {a : Ad} (h : HTb w a) (hb : Below w.heap.size w w') : HTb w' a := ⟨h.p.below hb, h.d.below hb, h.c.below hb, h.s.below hb⟩
theorem HP.mkd {lo hi l1 h1 : Nat} {w0 w w' : World} {a : Option Addr} {n : Nat} {Y : Nat → Rw} {K0 : Int} (h : HP w a n Y K0) (r : OP l1 h1 w0 a n Y) (hl : w0.heap.size ≤ w.heap.size) (g : Mk lo hi w w') (hd : h1 ≤ lo) : HP w' a n Y K0 :=
  ⟨h.r.mkd r.r hl g (.inl hd), fun i hi => by
    obtain ⟨b, off, e, q1, q2, q3, _⟩ := r.r (by omega)
    obtain ⟨β, p1, p2, p3, p4⟩ := r.v b off e (by omega)
    exact (h.v i hi).mkd (p4 i hi) hl g (.inl (by have := p2 (i + 1) n (by omega) (by omega); omega))⟩
end Go.Proofs.YtlomcdgfcocmmaaGreatDoor
namespace Go.Proofs.YtlomcdgfcocmmaaGreatDoor
open Go.ChangeShapes Go.WideShapes Go.ChangeAt Go.RowKit Go.Deep Go.Joins
set_option linter.unusedVariables false

theorem run_copy_all {P : Program} (w : World) (dT sT ty elem : TypeId) (g n dCap : Nat) (ad : Addr) (sCap k : Nat) (cur : Array Value) (t : TypeId) (cs : List Value)
    (hu : P.underlying dT = some (.slice elem)) (hs : (P.info? elem).map (·.size) = some k)
    (hg : w.heap[g]? = some (.cells cur t (0, 0))) (hn : cs.length = n * k)
    (hsrc : ∀ j v, cs[j]? = some v → w.cell? (ad.add j) = some v) (hfit : cs.length = cur.size) (h1 : ∀ v ∈ cs, v.oneCell' = true) :
    (Builtin.copy_ #[dT, sT] ty #[.slice (some ⟨g, 0, none⟩) n dCap, .slice (some ad) n sCap]).run P w = .ok (goInt n) (w.setRow g cs.toArray) := by
  have hl := run_loadCells_list (P := P) w ad cs hsrc
  have hst := run_storeCells_at P g 0 t cs 0 cur w hg (by simp; omega) h1
  have e : cur.toList.take (0 + 0) ++ cs ++ cur.toList.drop (0 + 0 + cs.length) = cs := by
    rw [List.take_zero, List.nil_append, List.drop_eq_nil_of_le (by simp; omega), List.append_nil]
  rw [e] at hst
  cases hq : P.info? elem with
  | none => simp [hq] at hs
  | some i =>
    have hi : i.size = k := by simpa [hq] using hs
    simp [Builtin.copy_, run_underlying hu, Builtin.lenOf, Builtin.firstCells, sizeOf, typeInfo, hq, hi, ← hn, hl, hst]
theorem run_copy_zero {P : Program} (w : World) (dT sT ty elem : TypeId) (d s : Option Addr) (dCap sCap k : Nat) (hu : P.underlying dT = some (.slice elem)) (hs : (P.info? elem).map (·.size) = some k) :
    (Builtin.copy_ #[dT, sT] ty #[.slice d 0 dCap, .slice s 0 sCap]).run P w = .ok (goInt 0) w := by
  cases hq : P.info? elem with
  | none => simp [hq] at hs
  | some i =>
    have hl : ∀ (x : Addr), (loadCells x 0).run P w = .ok #[] w := fun x => by simpa using run_loadCells_list (P := P) w x [] (by simp)
    cases d <;> cases s <;> simp [Builtin.copy_, run_underlying hu, Builtin.lenOf, Builtin.firstCells, sizeOf, typeInfo, hq, storeCells, hl]
/-- A whole copy into a row that the call made. -/
theorem wpList_copy_all {P : Program} {w : World} {ops : Array Oper} {rest : List Oper} {o : Oper} {a : Act} {Q : Exit → Act → World → Prop} (hgd : o.guard = none) (d s : Operand) (dT sT : TypeId)
    (ho : o.op = .call { callee := .builtin .copy, args := #[d, s], argTypes := #[dT, sT] }) (elem : TypeId) (hu : P.underlying dT = some (.slice elem)) (k : Nat) (hsz : (P.info? elem).map (·.size) = some k)
    (sp : Option Addr) (n dCap sCap g : Nat) (hd : a.eval d = .slice (some ⟨g, 0, none⟩) n dCap) (hs : a.eval s = .slice sp n sCap)
    (cur : List Value) (t : TypeId) (hg : w.heap[g]? = some (.cells cur.toArray t (0, 0))) (cs : List Value) (hn : cs.length = n * k) (hc : cur.length = n * k)
    (hpos : 0 < n → ∃ ad, sp = some ad ∧ ∀ j v, cs[j]? = some v → w.cell? (ad.add j) = some v) (h1 : ∀ v ∈ cs, v.oneCell' = true) (B : Nat) (w0 : World) (hb : Below B w0 w) (hBg : B ≤ g)
    (h : ∀ w', Hid (w'.heap[g]? = some (.cells cs.toArray t (0, 0))) → Below B w0 w' → wpList P ops Q rest (a.put o.dst (goInt n)) w') :
    wpList P ops Q (o :: rest) a w := by
  by_cases h0 : n = 0
  · subst h0
    rw [Nat.zero_mul] at hn hc
    obtain rfl : cs = [] := List.eq_nil_of_length_eq_zero hn
    obtain rfl : cur = [] := List.eq_nil_of_length_eq_zero hc
    refine wpList_plain hgd fun K hK => ?_
    have hrun := run_copy_zero (P := P) w dT sT o.type elem (some ⟨g, 0, none⟩) sp dCap sCap k hu hsz
    unfold Oper.wp
    simp [execOp, ho, resolve, invoke, builtin, hd, hs, hrun, Result.andThen]
    exact hK _ _ (h w hg hb)
  · obtain ⟨ad, rfl, hsrc⟩ := hpos (by omega)
    refine wpList_plain hgd fun K hK => ?_
    have hrun := run_copy_all (P := P) w dT sT o.type elem g n dCap ad sCap k cur.toArray t cs hu hsz hg hn hsrc (by simp; omega) h1
    unfold Oper.wp
    simp [execOp, ho, resolve, invoke, builtin, hd, hs, hrun, Result.andThen]
    exact hK _ _ (h _ (show _ = _ by exact setRow_heap w g _ _ t _ hg) (below_setRow hb hBg _))
theorem row_whole {w : World} {B g n k : Nat} {T : TypeId} {xs : List Value} (h : w.ownsRow B T k (.slice (some ⟨g, 0, none⟩) n n) n xs) : ∃ cur : List Value, w.heap[g]? = some (.cells cur.toArray T (0, 0)) ∧ cur.length = n * k := by
  rcases h.2 with ⟨h0, _⟩ | ⟨g', cap, cur, e, hb, hg, h1, h2, h3, h4⟩
  · cases h0
  · injection e with e1 e2 e3
    injection e1 with e1
    injection e1 with e1
    subst e1 e3
    exact ⟨cur.toList, by rw [hg], by simpa using h3⟩
/-- The cells of n rows, one behind the other. -/
def gcat (X : Nat → List Value) : Nat → List Value
  | 0 => []
  | n + 1 => gcat X n ++ X n
theorem gcat_len {k : Nat} {X : Nat → List Value} : ∀ {n : Nat}, (∀ i, i < n → (X i).length = k) → (gcat X n).length = n * k
  | 0, _ => by simp [gcat]
  | n + 1, h => by rw [gcat, List.length_append, gcat_len (fun i hi => h i (by omega)), h n (by omega), Nat.succ_mul]
theorem gcat_at {k : Nat} {X : Nat → List Value} : ∀ {n : Nat}, (∀ i, i < n → (X i).length = k) → ∀ i j, i < n → j < k → (gcat X n)[i * k + j]? = (X i)[j]?
  | 0, _, i, j, hi, _ => by omega
  | n + 1, h, i, j, hi, hj => by
    have hl := gcat_len (n := n) (X := X) (k := k) (fun i hi => h i (by omega))
    rw [gcat]
    by_cases e : i = n
    · subst e
      rw [List.getElem?_append_right (by omega), show i * k + j - (gcat X i).length = j by omega]
    · have h1 : i * k + j < n * k := row_apart (k := k) (m := n) (by omega) hj (Nat.le_refl _)
      rw [List.getElem?_append_left (by omega)]
      exact gcat_at (fun i hi => h i (by omega)) i j (by omega) hj
theorem gcat_congr {X Z : Nat → List Value} : ∀ {n : Nat}, (∀ i, i < n → X i = Z i) → gcat X n = gcat Z n
  | 0, _ => rfl
  | n + 1, h => by rw [gcat, gcat, gcat_congr (fun i hi => h i (by omega)), h n (by omega)]
theorem gcat_one {X : Nat → List Value} : ∀ {n : Nat}, (∀ i, i < n → ∀ u ∈ X i, u.oneCell' = true) → ∀ u ∈ gcat X n, u.oneCell' = true
  | 0, _, u, hu => by simp [gcat] at hu
  | n + 1, h, u, hu => by
    rw [gcat, List.mem_append] at hu
    rcases hu with hu | hu
    · exact gcat_one (fun i hi => h i (by omega)) u hu
    · exact h n (by omega) u hu
theorem gcat_app (X Z : Nat → List Value) (n : Nat) : ∀ m, gcat X n ++ gcat Z m = gcat (fun i => if i < n then X i else Z (i - n)) (n + m)
  | 0 => by
    rw [gcat, List.append_nil, Nat.add_zero]
    exact gcat_congr fun i hi => by rw [if_pos hi]
  | m + 1 => by
    rw [gcat, ← List.append_assoc, gcat_app X Z n m, show n + (m + 1) = n + m + 1 by omega, gcat, if_neg (by omega), Nat.add_sub_cancel_left]
theorem gcat_split {k j n : Nat} (hk : 0 < k) (hj : j < n * k) : ∃ i r, i < n ∧ r < k ∧ j = i * k + r := by
  refine ⟨j / k, j % k, Nat.div_lt_of_lt_mul (by rw [Nat.mul_comm]; exact hj), Nat.mod_lt _ hk, ?_⟩
  have := Nat.div_add_mod j k
  rw [Nat.mul_comm] at this
  omega
/-- Rows that are read lie as their cells one behind the other. -/
theorem gcat_src {k b off n : Nat} {w : World} {X : Nat → List Value} (hk : 0 < k) (hl : ∀ i, i < n → (X i).length = k) (h : ∀ i, i < n → CellsAt w b (off + i * k) (X i)) : ∀ j u, (gcat X n)[j]? = some u → w.cell? ((⟨b, off, none⟩ : Addr).add j) = some u := fun j u e => by
  rw [add_plain]
  have hj : j < (gcat X n).length := (List.getElem?_eq_some_iff.1 e).1
  rw [gcat_len hl] at hj
  obtain ⟨i, r, hi, hr, rfl⟩ := gcat_split hk hj
  rw [gcat_at hl i r hi hr] at e
  have := h i hi r u e
  rw [← Nat.add_assoc]
  exact this
theorem GBlk.of_heap {k B n : Nat} {w : World} {T : TypeId} {X : Nat → List Value} (hl : ∀ i, i < n → (X i).length = k) (h : w.heap[B]? = some (.cells (gcat X n).toArray T (0, 0))) : GBlk k w B n n X := by
  have hlen := gcat_len hl
  refine ⟨(Array.getElem?_eq_some_iff.1 h).1, fun j => by simp [World.frozen?, h], fun i hi j hj => ?_, fun i hi j v hj => ?_⟩
  · have h1 : i * k + j < n * k := row_apart (k := k) (m := n) hi hj (Nat.le_refl _)
    have : i * k + j < (gcat X n).length := by omega
    exact ⟨(gcat X n)[i * k + j], by simp [World.cell?, h, List.getElem?_eq_getElem this]⟩
  · have hj3 : j < k := by
      have := (List.getElem?_eq_some_iff.1 hj).1
      rw [hl i hi] at this
      exact this
    have e := gcat_at hl i j hi hj3
    rw [hj] at e
    simp [World.cell?, h, e]
/-- Rows that a call owns: where they lie, and that they may be written. -/
theorem own_gen {T : TypeId} {k base n : Nat} {w : World} {v : Value} {X : Nat → List Value} (hl : ∀ i, i < n → (X i).length = k) (h : w.ownsRow base T k v n (gcat X n)) : ∃ A cap, v = .slice A n cap ∧ n ≤ cap ∧ GSeg k w A n X ∧ WR k base w.heap.size w A n := by
  rcases h.2 with ⟨h0, h1⟩ | ⟨g, cap, cur, rfl, hb, hg, h1, h2, h3, h4⟩
  · exact ⟨none, 0, by rw [h0, h1], by omega, fun h => absurd h (by omega), fun h => absurd h (by omega)⟩
  · have hlt : g < w.heap.size := by
      rcases Nat.lt_or_ge g w.heap.size with hlt | hge
      · exact hlt
      · rw [Array.getElem?_eq_none hge] at hg; cases hg
    have hcell : ∀ i, i < n → CellsAt w g (0 + i * k) (X i) := fun i hi j v hj => by
      have hj3 : j < k := by
        have := (List.getElem?_eq_some_iff.1 hj).1
        rw [hl i hi] at this
        exact this
      have e : (gcat X n)[i * k + j]? = some v := by rw [gcat_at hl i j hi hj3]; exact hj
      have hj2 : i * k + j < n * k := row_apart (k := k) (m := n) hi hj3 (Nat.le_refl _)
      rw [← h4, List.getElem?_take, if_pos hj2] at e
      rw [Nat.zero_add]
      have e2 : cur[i * k + j]? = some v := by simpa using e
      simp [World.cell?, hg, e2]
    refine ⟨_, _, rfl, h1, fun h0 => ⟨g, 0, rfl, hlt, hcell⟩, fun h0 => ⟨g, 0, rfl, hb, hlt, hlt, fun i j hi hj => ?_, fun j => by simp [World.frozen?, hg]⟩⟩
    have hl2 : j < (X i).length := by rw [hl i hi]; exact hj
    exact ⟨_, hcell i hi j _ (List.getElem?_eq_getElem hl2)⟩
theorem slX_len (xs : List slT) (i : Nat) : (slX xs i).length = 3 := rfl
theorem chX_len (xs : List chT) (i : Nat) : (chX xs i).length = 4 := rfl
theorem inX_len (xs : List Int) (i : Nat) : (inX xs i).length = 1 := rfl
theorem wiX_len (xs : List wiT) (i : Nat) : (wiX xs i).length = 3 := rfl
theorem rwX_len (Y : Nat → Rw) (i : Nat) : (rwL (Y i)).length = 5 := rfl
theorem slX_one (xs : List slT) (i : Nat) : ∀ u ∈ slX xs i, u.oneCell' = true := by
  intro u hu
  simp only [slX, slL, List.mem_cons, List.not_mem_nil, or_false] at hu
  rcases hu with rfl | rfl | rfl <;> rfl
theorem chX_one (xs : List chT) (i : Nat) : ∀ u ∈ chX xs i, u.oneCell' = true := by
  intro u hu
  simp only [chX, chL, List.mem_cons, List.not_mem_nil, or_false] at hu
  rcases hu with rfl | rfl | rfl | rfl <;> rfl
theorem inX_one (xs : List Int) (i : Nat) : ∀ u ∈ inX xs i, u.oneCell' = true := by
  intro u hu
  simp only [inX, List.mem_cons, List.not_mem_nil, or_false] at hu
  rcases hu with rfl <;> rfl
theorem wiX_one (xs : List wiT) (i : Nat) : ∀ u ∈ wiX xs i, u.oneCell' = true := by
  intro u hu
  simp only [wiX, wiL, List.mem_cons, List.not_mem_nil, or_false] at hu
  rcases hu with rfl | rfl | rfl <;> rfl
theorem rwX_one (Y : Nat → Rw) (i : Nat) : ∀ u ∈ rwL (Y i), u.oneCell' = true := by
  intro u hu
  simp only [rwL, List.mem_cons, List.not_mem_nil, or_false] at hu
  rcases hu with rfl | rfl | rfl | rfl | rfl <;> rfl
theorem inf_int : (Tryz.prog.info? 3).map (fun i => (i.zero, i.size, i.bytes)) = some (some (.int .i64 0), 1, 8) := by kernel_rfl
set_option maxRecDepth 20000 in
set_option maxHeartbeats 2000000 in
theorem cp_int (a : Option Addr) (n c : Nat) (XS : List Value) (w : World) (hl : XS.length = n * 1) (hn : n ≤ 1048576) (hs : 0 < n → ∃ ad, a = some ad ∧ ∀ j v, XS[j]? = some v → w.cell? (ad.add j) = some v) (hlt : ∀ ad, 0 < n → a = some ad → ad.block < w.heap.size) (h1 : ∀ u ∈ XS, u.oneCell' = true) :
    Calls Tryz.prog 69 #[.slice a n c] w fun e w' => e = .returned (.slice (some ⟨w.heap.size, 0, none⟩) n n) ∧ Below w.heap.size w w' ∧ w'.heap[w.heap.size]? = some (.cells XS.toArray 3 (0, 0)) := by
  obtain ⟨iW, hi, hi'⟩ := Option.map_eq_some_iff.1 inf_int
  simp only [Prod.mk.injEq] at hi'
  have HI : Hid (Tryz.prog.info? 3 = some iW ∧ iW.zero = some (.int .i64 0) ∧ iW.size = 1 ∧ iW.bytes * n ≤ 281474976710656) := ⟨hi, hi'.1, hi'.2.1, by rw [hi'.2.2]; omega⟩
  have HSZ : Hid ((Tryz.prog.info? 3).map (·.size) = some 1) := by show _ = _; rw [hi]; simp [hi'.2.1]
  have HML : Hid (n ≤ maxLen) := by have : maxLen = 9223372036854775807 := rfl; show n ≤ maxLen; omega
  have HXL : Hid (XS.length = n * 1) := hl
  have HS : Hid (∀ w1, Below w.heap.size w w1 → 0 < n → ∃ ad, a = some ad ∧ ∀ j v, XS[j]? = some v → w1.cell? (ad.add j) = some v) := fun w1 hb h0 => by
    obtain ⟨ad, e, h⟩ := hs h0
    refine ⟨ad, e, fun j v hj => ?_⟩
    have hb1 : (ad.add j).block = ad.block := by unfold Addr.add; split <;> rfl
    exact (hb.cell (p := ad.add j) (by rw [hb1]; exact hlt ad h0 e)).trans (h j v hj)
  have H1 : Hid (∀ u ∈ XS, u.oneCell' = true) := h1
  clear hl hs hlt h1 hi hi'
  go_enter Tryz.func69, Tryz.ntmps69
  go_wp2_with (first
    | (at_make; refine wpList_make_full _ rfl (.tmp 5) (.tmp 5) 29 rfl w.heap.size 3 iW (.int .i64 0) 1 Tryz.underlying29 HI.out.1 HI.out.2.1 HI.out.2.2.1 .i64 .i64 n n n rfl rfl rfl rfl HI.out.2.2.2 HML.out (Nat.le_refl _) ?_; intro w1 ho1 hg1; have HB1 : Hid (Below w.heap.size w w1) := Below.grown (Below.refl _ w) hg1 (Nat.le_refl _) (fun g e => by cases e); obtain ⟨cur, hcur, hcl⟩ := row_whole ho1; have HC : Hid (w1.heap[w.heap.size]? = some (.cells cur.toArray 3 (0, 0)) ∧ cur.length = n * 1) := ⟨hcur, hcl⟩; clear ho1 hg1 hcur hcl)
    | (refine wpList_copy_all rfl (.tmp 7) (.tmp 8) 29 29 rfl 3 Tryz.underlying29 1 HSZ.out _ n n c w.heap.size rfl rfl cur 3 HC.out.1 XS HXL.out HC.out.2 (HS.out _ HB1.out) H1.out w.heap.size w HB1.out (Nat.le_refl _) ?_; intro w2 HG2 hB2; have HB2 : Hid (Below w.heap.size w w2) := hB2; clear hB2))
  go_ret
  exact ⟨rfl, HB2.out, HG2.out⟩
theorem cpg_int (a : Option Addr) (n c : Nat) (X : Nat → List Value) (w : World) (hs : GSeg 1 w a n X) (hX : ∀ i, (X i).length = 1) (h1 : ∀ i, ∀ u ∈ X i, u.oneCell' = true) (hn : n ≤ 1048576) :
    Calls Tryz.prog 69 #[.slice a n c] w fun e w' => e = .returned (.slice (some ⟨w.heap.size, 0, none⟩) n n) ∧ Below w.heap.size w w' ∧ GBlk 1 w' w.heap.size n n X :=
  (cp_int a n c (gcat X n) w (gcat_len fun i _ => hX i) hn (fun h0 => by
    obtain ⟨b, off, e, hlt, hc⟩ := hs h0
    exact ⟨_, e, gcat_src (by decide) (fun i _ => hX i) hc⟩) (fun ad h0 e => by
    obtain ⟨b, off, e', hlt, _⟩ := hs h0
    rw [e] at e'
    injection e' with e'
    subst e'
    exact hlt) (gcat_one fun i _ => h1 i)).mono fun e w' ⟨g1, g2, g3⟩ => ⟨g1, g2, GBlk.of_heap (fun i _ => hX i) g3⟩
theorem inf_chn : (Tryz.prog.info? 76).map (fun i => (i.zero, i.size, i.bytes)) = some (some (.agg #[.int .i64 0, .int .i64 0, .int .i64 0, .int .i64 0]), 4, 32) := by kernel_rfl
set_option maxRecDepth 20000 in
set_option maxHeartbeats 2000000 in
theorem cp_chn (a : Option Addr) (n c : Nat) (XS : List Value) (w : World) (hl : XS.length = n * 4) (hn : n ≤ 1048576) (hs : 0 < n → ∃ ad, a = some ad ∧ ∀ j v, XS[j]? = some v → w.cell? (ad.add j) = some v) (hlt : ∀ ad, 0 < n → a = some ad → ad.block < w.heap.size) (h1 : ∀ u ∈ XS, u.oneCell' = true) :
    Calls Tryz.prog 70 #[.slice a n c] w fun e w' => e = .returned (.slice (some ⟨w.heap.size, 0, none⟩) n n) ∧ Below w.heap.size w w' ∧ w'.heap[w.heap.size]? = some (.cells XS.toArray 76 (0, 0)) := by
  obtain ⟨iW, hi, hi'⟩ := Option.map_eq_some_iff.1 inf_chn
  simp only [Prod.mk.injEq] at hi'
  have HI : Hid (Tryz.prog.info? 76 = some iW ∧ iW.zero = some (.agg #[.int .i64 0, .int .i64 0, .int .i64 0, .int .i64 0]) ∧ iW.size = 4 ∧ iW.bytes * n ≤ 281474976710656) := ⟨hi, hi'.1, hi'.2.1, by rw [hi'.2.2]; omega⟩
  have HSZ : Hid ((Tryz.prog.info? 76).map (·.size) = some 4) := by show _ = _; rw [hi]; simp [hi'.2.1]
  have HML : Hid (n ≤ maxLen) := by have : maxLen = 9223372036854775807 := rfl; show n ≤ maxLen; omega
  have HXL : Hid (XS.length = n * 4) := hl
  have HS : Hid (∀ w1, Below w.heap.size w w1 → 0 < n → ∃ ad, a = some ad ∧ ∀ j v, XS[j]? = some v → w1.cell? (ad.add j) = some v) := fun w1 hb h0 => by
    obtain ⟨ad, e, h⟩ := hs h0
    refine ⟨ad, e, fun j v hj => ?_⟩
    have hb1 : (ad.add j).block = ad.block := by unfold Addr.add; split <;> rfl
    exact (hb.cell (p := ad.add j) (by rw [hb1]; exact hlt ad h0 e)).trans (h j v hj)
  have H1 : Hid (∀ u ∈ XS, u.oneCell' = true) := h1
  clear hl hs hlt h1 hi hi'
  go_enter Tryz.func70, Tryz.ntmps70
  go_wp2_with (first
    | (at_make; refine wpList_make_full _ rfl (.tmp 5) (.tmp 5) 30 rfl w.heap.size 76 iW (.agg #[.int .i64 0, .int .i64 0, .int .i64 0, .int .i64 0]) 4 Tryz.underlying30 HI.out.1 HI.out.2.1 HI.out.2.2.1 .i64 .i64 n n n rfl rfl rfl rfl HI.out.2.2.2 HML.out (Nat.le_refl _) ?_; intro w1 ho1 hg1; have HB1 : Hid (Below w.heap.size w w1) := Below.grown (Below.refl _ w) hg1 (Nat.le_refl _) (fun g e => by cases e); obtain ⟨cur, hcur, hcl⟩ := row_whole ho1; have HC : Hid (w1.heap[w.heap.size]? = some (.cells cur.toArray 76 (0, 0)) ∧ cur.length = n * 4) := ⟨hcur, hcl⟩; clear ho1 hg1 hcur hcl)
    | (refine wpList_copy_all rfl (.tmp 7) (.tmp 8) 30 30 rfl 76 Tryz.underlying30 4 HSZ.out _ n n c w.heap.size rfl rfl cur 76 HC.out.1 XS HXL.out HC.out.2 (HS.out _ HB1.out) H1.out w.heap.size w HB1.out (Nat.le_refl _) ?_; intro w2 HG2 hB2; have HB2 : Hid (Below w.heap.size w w2) := hB2; clear hB2))
  go_ret
  exact ⟨rfl, HB2.out, HG2.out⟩
theorem cpg_chn (a : Option Addr) (n c : Nat) (X : Nat → List Value) (w : World) (hs : GSeg 4 w a n X) (hX : ∀ i, (X i).length = 4) (h1 : ∀ i, ∀ u ∈ X i, u.oneCell' = true) (hn : n ≤ 1048576) :
    Calls Tryz.prog 70 #[.slice a n c] w fun e w' => e = .returned (.slice (some ⟨w.heap.size, 0, none⟩) n n) ∧ Below w.heap.size w w' ∧ GBlk 4 w' w.heap.size n n X :=
  (cp_chn a n c (gcat X n) w (gcat_len fun i _ => hX i) hn (fun h0 => by
    obtain ⟨b, off, e, hlt, hc⟩ := hs h0
    exact ⟨_, e, gcat_src (by decide) (fun i _ => hX i) hc⟩) (fun ad h0 e => by
    obtain ⟨b, off, e', hlt, _⟩ := hs h0
    rw [e] at e'
    injection e' with e'
    subst e'
    exact hlt) (gcat_one fun i _ => h1 i)).mono fun e w' ⟨g1, g2, g3⟩ => ⟨g1, g2, GBlk.of_heap (fun i _ => hX i) g3⟩
theorem inf_slt : (Tryz.prog.info? 42).map (fun i => (i.zero, i.size, i.bytes)) = some (some (.agg #[.int .i64 0, .int .i64 0, .int .i64 0]), 3, 24) := by kernel_rfl
set_option maxRecDepth 20000 in
set_option maxHeartbeats 2000000 in
theorem cp_slt (a : Option Addr) (n c : Nat) (XS : List Value) (w : World) (hl : XS.length = n * 3) (hn : n ≤ 1048576) (hs : 0 < n → ∃ ad, a = some ad ∧ ∀ j v, XS[j]? = some v → w.cell? (ad.add j) = some v) (hlt : ∀ ad, 0 < n → a = some ad → ad.block < w.heap.size) (h1 : ∀ u ∈ XS, u.oneCell' = true) :
    Calls Tryz.prog 71 #[.slice a n c] w fun e w' => e = .returned (.slice (some ⟨w.heap.size, 0, none⟩) n n) ∧ Below w.heap.size w w' ∧ w'.heap[w.heap.size]? = some (.cells XS.toArray 42 (0, 0)) := by
  obtain ⟨iW, hi, hi'⟩ := Option.map_eq_some_iff.1 inf_slt
  simp only [Prod.mk.injEq] at hi'
  have HI : Hid (Tryz.prog.info? 42 = some iW ∧ iW.zero = some (.agg #[.int .i64 0, .int .i64 0, .int .i64 0]) ∧ iW.size = 3 ∧ iW.bytes * n ≤ 281474976710656) := ⟨hi, hi'.1, hi'.2.1, by rw [hi'.2.2]; omega⟩
  have HSZ : Hid ((Tryz.prog.info? 42).map (·.size) = some 3) := by show _ = _; rw [hi]; simp [hi'.2.1]
  have HML : Hid (n ≤ maxLen) := by have : maxLen = 9223372036854775807 := rfl; show n ≤ maxLen; omega
  have HXL : Hid (XS.length = n * 3) := hl
  have HS : Hid (∀ w1, Below w.heap.size w w1 → 0 < n → ∃ ad, a = some ad ∧ ∀ j v, XS[j]? = some v → w1.cell? (ad.add j) = some v) := fun w1 hb h0 => by
    obtain ⟨ad, e, h⟩ := hs h0
    refine ⟨ad, e, fun j v hj => ?_⟩
    have hb1 : (ad.add j).block = ad.block := by unfold Addr.add; split <;> rfl
    exact (hb.cell (p := ad.add j) (by rw [hb1]; exact hlt ad h0 e)).trans (h j v hj)
  have H1 : Hid (∀ u ∈ XS, u.oneCell' = true) := h1
  clear hl hs hlt h1 hi hi'
  go_enter Tryz.func71, Tryz.ntmps71
  go_wp2_with (first
    | (at_make; refine wpList_make_full _ rfl (.tmp 5) (.tmp 5) 31 rfl w.heap.size 42 iW (.agg #[.int .i64 0, .int .i64 0, .int .i64 0]) 3 Tryz.underlying31 HI.out.1 HI.out.2.1 HI.out.2.2.1 .i64 .i64 n n n rfl rfl rfl rfl HI.out.2.2.2 HML.out (Nat.le_refl _) ?_; intro w1 ho1 hg1; have HB1 : Hid (Below w.heap.size w w1) := Below.grown (Below.refl _ w) hg1 (Nat.le_refl _) (fun g e => by cases e); obtain ⟨cur, hcur, hcl⟩ := row_whole ho1; have HC : Hid (w1.heap[w.heap.size]? = some (.cells cur.toArray 42 (0, 0)) ∧ cur.length = n * 3) := ⟨hcur, hcl⟩; clear ho1 hg1 hcur hcl)
    | (refine wpList_copy_all rfl (.tmp 7) (.tmp 8) 31 31 rfl 42 Tryz.underlying31 3 HSZ.out _ n n c w.heap.size rfl rfl cur 42 HC.out.1 XS HXL.out HC.out.2 (HS.out _ HB1.out) H1.out w.heap.size w HB1.out (Nat.le_refl _) ?_; intro w2 HG2 hB2; have HB2 : Hid (Below w.heap.size w w2) := hB2; clear hB2))
  go_ret
  exact ⟨rfl, HB2.out, HG2.out⟩
theorem cpg_slt (a : Option Addr) (n c : Nat) (X : Nat → List Value) (w : World) (hs : GSeg 3 w a n X) (hX : ∀ i, (X i).length = 3) (h1 : ∀ i, ∀ u ∈ X i, u.oneCell' = true) (hn : n ≤ 1048576) :
    Calls Tryz.prog 71 #[.slice a n c] w fun e w' => e = .returned (.slice (some ⟨w.heap.size, 0, none⟩) n n) ∧ Below w.heap.size w w' ∧ GBlk 3 w' w.heap.size n n X :=
  (cp_slt a n c (gcat X n) w (gcat_len fun i _ => hX i) hn (fun h0 => by
    obtain ⟨b, off, e, hlt, hc⟩ := hs h0
    exact ⟨_, e, gcat_src (by decide) (fun i _ => hX i) hc⟩) (fun ad h0 e => by
    obtain ⟨b, off, e', hlt, _⟩ := hs h0
    rw [e] at e'
    injection e' with e'
    subst e'
    exact hlt) (gcat_one fun i _ => h1 i)).mono fun e w' ⟨g1, g2, g3⟩ => ⟨g1, g2, GBlk.of_heap (fun i _ => hX i) g3⟩
theorem inf_win : (Tryz.prog.info? 74).map (fun i => (i.zero, i.size, i.bytes)) = some (some (.agg #[.int .i64 0, .int .i64 0, .int .i64 0]), 3, 24) := by kernel_rfl
set_option maxRecDepth 20000 in
set_option maxHeartbeats 2000000 in
theorem cp_win (a : Option Addr) (n c : Nat) (XS : List Value) (w : World) (hl : XS.length = n * 3) (hn : n ≤ 1048576) (hs : 0 < n → ∃ ad, a = some ad ∧ ∀ j v, XS[j]? = some v → w.cell? (ad.add j) = some v) (hlt : ∀ ad, 0 < n → a = some ad → ad.block < w.heap.size) (h1 : ∀ u ∈ XS, u.oneCell' = true) :
    Calls Tryz.prog 68 #[.slice a n c] w fun e w' => e = .returned (.slice (some ⟨w.heap.size, 0, none⟩) n n) ∧ Below w.heap.size w w' ∧ w'.heap[w.heap.size]? = some (.cells XS.toArray 74 (0, 0)) := by
  obtain ⟨iW, hi, hi'⟩ := Option.map_eq_some_iff.1 inf_win
  simp only [Prod.mk.injEq] at hi'
  have HI : Hid (Tryz.prog.info? 74 = some iW ∧ iW.zero = some (.agg #[.int .i64 0, .int .i64 0, .int .i64 0]) ∧ iW.size = 3 ∧ iW.bytes * n ≤ 281474976710656) := ⟨hi, hi'.1, hi'.2.1, by rw [hi'.2.2]; omega⟩
  have HSZ : Hid ((Tryz.prog.info? 74).map (·.size) = some 3) := by show _ = _; rw [hi]; simp [hi'.2.1]
  have HML : Hid (n ≤ maxLen) := by have : maxLen = 9223372036854775807 := rfl; show n ≤ maxLen; omega
  have HXL : Hid (XS.length = n * 3) := hl
  have HS : Hid (∀ w1, Below w.heap.size w w1 → 0 < n → ∃ ad, a = some ad ∧ ∀ j v, XS[j]? = some v → w1.cell? (ad.add j) = some v) := fun w1 hb h0 => by
    obtain ⟨ad, e, h⟩ := hs h0
    refine ⟨ad, e, fun j v hj => ?_⟩
    have hb1 : (ad.add j).block = ad.block := by unfold Addr.add; split <;> rfl
    exact (hb.cell (p := ad.add j) (by rw [hb1]; exact hlt ad h0 e)).trans (h j v hj)
  have H1 : Hid (∀ u ∈ XS, u.oneCell' = true) := h1
  clear hl hs hlt h1 hi hi'
  go_enter Tryz.func68, Tryz.ntmps68
  go_wp2_with (first
    | (at_make; refine wpList_make_full _ rfl (.tmp 5) (.tmp 5) 70 rfl w.heap.size 74 iW (.agg #[.int .i64 0, .int .i64 0, .int .i64 0]) 3 Tryz.underlying70 HI.out.1 HI.out.2.1 HI.out.2.2.1 .i64 .i64 n n n rfl rfl rfl rfl HI.out.2.2.2 HML.out (Nat.le_refl _) ?_; intro w1 ho1 hg1; have HB1 : Hid (Below w.heap.size w w1) := Below.grown (Below.refl _ w) hg1 (Nat.le_refl _) (fun g e => by cases e); obtain ⟨cur, hcur, hcl⟩ := row_whole ho1; have HC : Hid (w1.heap[w.heap.size]? = some (.cells cur.toArray 74 (0, 0)) ∧ cur.length = n * 3) := ⟨hcur, hcl⟩; clear ho1 hg1 hcur hcl)
    | (refine wpList_copy_all rfl (.tmp 7) (.tmp 8) 70 70 rfl 74 Tryz.underlying70 3 HSZ.out _ n n c w.heap.size rfl rfl cur 74 HC.out.1 XS HXL.out HC.out.2 (HS.out _ HB1.out) H1.out w.heap.size w HB1.out (Nat.le_refl _) ?_; intro w2 HG2 hB2; have HB2 : Hid (Below w.heap.size w w2) := hB2; clear hB2))
  go_ret
  exact ⟨rfl, HB2.out, HG2.out⟩
theorem cpg_win (a : Option Addr) (n c : Nat) (X : Nat → List Value) (w : World) (hs : GSeg 3 w a n X) (hX : ∀ i, (X i).length = 3) (h1 : ∀ i, ∀ u ∈ X i, u.oneCell' = true) (hn : n ≤ 1048576) :
    Calls Tryz.prog 68 #[.slice a n c] w fun e w' => e = .returned (.slice (some ⟨w.heap.size, 0, none⟩) n n) ∧ Below w.heap.size w w' ∧ GBlk 3 w' w.heap.size n n X :=
  (cp_win a n c (gcat X n) w (gcat_len fun i _ => hX i) hn (fun h0 => by
    obtain ⟨b, off, e, hlt, hc⟩ := hs h0
    exact ⟨_, e, gcat_src (by decide) (fun i _ => hX i) hc⟩) (fun ad h0 e => by
    obtain ⟨b, off, e', hlt, _⟩ := hs h0
    rw [e] at e'
    injection e' with e'
    subst e'
    exact hlt) (gcat_one fun i _ => h1 i)).mono fun e w' ⟨g1, g2, g3⟩ => ⟨g1, g2, GBlk.of_heap (fun i _ => hX i) g3⟩
theorem inf_prt : (Tryz.prog.info? 72).map (fun i => (i.zero, i.size, i.bytes)) = some (some (.agg #[.string ByteArray.empty, .int .i64 0, .int .i64 0, .int .i64 0, .slice none 0 0]), 5, 64) := by kernel_rfl
set_option maxRecDepth 20000 in
set_option maxHeartbeats 2000000 in
theorem cp_prt (a : Option Addr) (n c : Nat) (XS : List Value) (w : World) (hl : XS.length = n * 5) (hn : n ≤ 1048576) (hs : 0 < n → ∃ ad, a = some ad ∧ ∀ j v, XS[j]? = some v → w.cell? (ad.add j) = some v) (hlt : ∀ ad, 0 < n → a = some ad → ad.block < w.heap.size) (h1 : ∀ u ∈ XS, u.oneCell' = true) :
    Calls Tryz.prog 67 #[.slice a n c] w fun e w' => e = .returned (.slice (some ⟨w.heap.size, 0, none⟩) n n) ∧ Below w.heap.size w w' ∧ w'.heap[w.heap.size]? = some (.cells XS.toArray 72 (0, 0)) := by
  obtain ⟨iW, hi, hi'⟩ := Option.map_eq_some_iff.1 inf_prt
  simp only [Prod.mk.injEq] at hi'
  have HI : Hid (Tryz.prog.info? 72 = some iW ∧ iW.zero = some (.agg #[.string ByteArray.empty, .int .i64 0, .int .i64 0, .int .i64 0, .slice none 0 0]) ∧ iW.size = 5 ∧ iW.bytes * n ≤ 281474976710656) := ⟨hi, hi'.1, hi'.2.1, by rw [hi'.2.2]; omega⟩
  have HSZ : Hid ((Tryz.prog.info? 72).map (·.size) = some 5) := by show _ = _; rw [hi]; simp [hi'.2.1]
  have HML : Hid (n ≤ maxLen) := by have : maxLen = 9223372036854775807 := rfl; show n ≤ maxLen; omega
  have HXL : Hid (XS.length = n * 5) := hl
  have HS : Hid (∀ w1, Below w.heap.size w w1 → 0 < n → ∃ ad, a = some ad ∧ ∀ j v, XS[j]? = some v → w1.cell? (ad.add j) = some v) := fun w1 hb h0 => by
    obtain ⟨ad, e, h⟩ := hs h0
    refine ⟨ad, e, fun j v hj => ?_⟩
    have hb1 : (ad.add j).block = ad.block := by unfold Addr.add; split <;> rfl
    exact (hb.cell (p := ad.add j) (by rw [hb1]; exact hlt ad h0 e)).trans (h j v hj)
  have H1 : Hid (∀ u ∈ XS, u.oneCell' = true) := h1
  clear hl hs hlt h1 hi hi'
  go_enter Tryz.func67, Tryz.ntmps67
  go_wp2_with (first
    | (at_make; refine wpList_make_full _ rfl (.tmp 5) (.tmp 5) 28 rfl w.heap.size 72 iW (.agg #[.string ByteArray.empty, .int .i64 0, .int .i64 0, .int .i64 0, .slice none 0 0]) 5 Tryz.underlying28 HI.out.1 HI.out.2.1 HI.out.2.2.1 .i64 .i64 n n n rfl rfl rfl rfl HI.out.2.2.2 HML.out (Nat.le_refl _) ?_; intro w1 ho1 hg1; have HB1 : Hid (Below w.heap.size w w1) := Below.grown (Below.refl _ w) hg1 (Nat.le_refl _) (fun g e => by cases e); obtain ⟨cur, hcur, hcl⟩ := row_whole ho1; have HC : Hid (w1.heap[w.heap.size]? = some (.cells cur.toArray 72 (0, 0)) ∧ cur.length = n * 5) := ⟨hcur, hcl⟩; clear ho1 hg1 hcur hcl)
    | (refine wpList_copy_all rfl (.tmp 7) (.tmp 8) 28 28 rfl 72 Tryz.underlying28 5 HSZ.out _ n n c w.heap.size rfl rfl cur 72 HC.out.1 XS HXL.out HC.out.2 (HS.out _ HB1.out) H1.out w.heap.size w HB1.out (Nat.le_refl _) ?_; intro w2 HG2 hB2; have HB2 : Hid (Below w.heap.size w w2) := hB2; clear hB2))
  go_ret
  exact ⟨rfl, HB2.out, HG2.out⟩
theorem cpg_prt (a : Option Addr) (n c : Nat) (X : Nat → List Value) (w : World) (hs : GSeg 5 w a n X) (hX : ∀ i, (X i).length = 5) (h1 : ∀ i, ∀ u ∈ X i, u.oneCell' = true) (hn : n ≤ 1048576) :
    Calls Tryz.prog 67 #[.slice a n c] w fun e w' => e = .returned (.slice (some ⟨w.heap.size, 0, none⟩) n n) ∧ Below w.heap.size w w' ∧ GBlk 5 w' w.heap.size n n X :=
  (cp_prt a n c (gcat X n) w (gcat_len fun i _ => hX i) hn (fun h0 => by
    obtain ⟨b, off, e, hlt, hc⟩ := hs h0
    exact ⟨_, e, gcat_src (by decide) (fun i _ => hX i) hc⟩) (fun ad h0 e => by
    obtain ⟨b, off, e', hlt, _⟩ := hs h0
    rw [e] at e'
    injection e' with e'
    subst e'
    exact hlt) (gcat_one fun i _ => h1 i)).mono fun e w' ⟨g1, g2, g3⟩ => ⟨g1, g2, GBlk.of_heap (fun i _ => hX i) g3⟩
end Go.Proofs.YtlomcdgfcocmmaaGreatDoor
namespace Go.Proofs.YtlomcdgfcocmmaaGreatDoor
open Go.ChangeShapes Go.WideShapes Go.ChangeAt Go.RowKit Go.Deep Go.Joins
set_option linter.unusedVariables false

/-- Tables that a call made: they read as t, and each of their lists lies in blocks of its own, from 'lo' on. -/
structure OTR (lo : Nat) (w : World) (t : Tb) (a : Ad) : Prop where
  m : TM 0 w t a
  o : OTa lo w.heap.size w a
  w : TW t a
  s : TS a
  cp : a.pn ≤ a.pc
  cs : a.sn ≤ a.sc
theorem OTa.wide {lo lo' hi hi' : Nat} {w : World} {a : Ad} (h : OTa lo hi w a) (h1 : lo' ≤ lo) (h2 : hi ≤ hi') : OTa lo' hi' w a := by
  obtain ⟨k1, k2, k3, q1, q2, q3, q4, q5, q6, q7, q8⟩ := h
  have wr : ∀ {k l h l' h' : Nat} {a : Option Addr} {n : Nat}, l' ≤ l → h ≤ h' → WR k l h w a n → WR k l' h' w a n := fun g1 g2 g hn => by
    obtain ⟨b, off, e, r1, r2, r3⟩ := g hn
    exact ⟨b, off, e, by omega, by omega, r3⟩
  exact ⟨k1, k2, k3, q1, q2, by omega, by omega, ⟨wr h1 (Nat.le_refl _) q5.r, q5.g, q5.v⟩, q6, q7, wr (Nat.le_refl _) h2 q8⟩
theorem OTR.below {lo : Nat} {w w' : World} {t : Tb} {a : Ad} (h : OTR lo w t a) (hb : Below w.heap.size w w') : OTR lo w' t a :=
  ⟨h.m.below hb, (h.o.below hb).wide (Nat.le_refl _) hb.size, h.w, h.s, h.cp, h.cs⟩
theorem WR.setRow {k lo hi B n : Nat} {w : World} {a : Option Addr} {cs : Array Value} (h : WR k lo hi w a n) (hB : B < lo) : WR k lo hi (w.setRow B cs) a n := fun h0 => by
  obtain ⟨b, off, e, q1, q2, q3, q4, q5⟩ := h h0
  have hbl : (w.setRow B cs).heap[b]? = w.heap[b]? := by simp [World.setRow, Array.getElem?_modify]; omega
  refine ⟨b, off, e, q1, q2, by simpa [World.setRow] using q3, fun i j hi hj => ?_, fun j => ?_⟩
  · obtain ⟨u, hu⟩ := q4 i j hi hj
    exact ⟨u, (World.cell?_of_block (a := ⟨b, off + i * k + j, none⟩) hbl).trans hu⟩
  · have := q5 j
    simp only [World.frozen?] at this ⊢
    rw [hbl]
    exact this
theorem OTR.setRow {lo B : Nat} {w : World} {t : Tb} {a : Ad} {cs : Array Value} (h : OTR lo w t a) (hB : B < lo) : OTR lo (w.setRow B cs) t a := by
  have hsz : (w.setRow B cs).heap.size = w.heap.size := by simp [World.setRow]
  have key : ∀ b, lo ≤ b → (w.setRow B cs).heap[b]? = w.heap[b]? := fun b hb => by simp [World.setRow, Array.getElem?_modify]; omega
  obtain ⟨k1, k2, k3, q1, q2, q3, q4, q5, q6, q7, q8⟩ := h.o
  have gs : ∀ {k l h2 n : Nat} {ad : Option Addr} {X : Nat → List Value}, WR k l h2 w ad n → lo ≤ l → GSegL k 0 w ad n X → GSegL k 0 (w.setRow B cs) ad n X := fun r hl g h0 => by
    obtain ⟨b, off, e, r1, r2, r3, _⟩ := r h0
    obtain ⟨b', off', e', g1, g2, g3, g4⟩ := g h0
    rw [e] at e'
    cases e'
    exact ⟨b, off, e, Nat.zero_le _, by rw [hsz]; exact g2, fun i hi => (g3 i hi).of (fun j => World.cell?_of_block (a := ⟨b, j, none⟩) (key b (by omega))), fun h => absurd h (Nat.lt_irrefl _)⟩
  refine ⟨⟨⟨gs q5.r (Nat.le_refl _) h.m.p.p1, fun i hi => ?_, fun h => absurd h (Nat.lt_irrefl 0)⟩, gs q6 (by omega) h.m.d, gs q7 (by omega) h.m.c, gs q8 (by omega) h.m.s⟩, ?_, h.w, h.s, h.cp, h.cs⟩
  · have g := h.m.p.p2 i hi
    obtain ⟨b, off, e, r1, r2, r3, _⟩ := q5.r (by omega)
    obtain ⟨β, p1, p2, p3, p4⟩ := q5.v b off e (by omega)
    have := p2 0 i (by omega) (by omega)
    exact ⟨g.nm, g.en, g.kd, g.ms, g.ln, g.cp, gs (p4 i hi) (by omega) g.sg⟩
  · rw [hsz]
    refine ⟨k1, k2, k3, q1, q2, q3, q4, ⟨q5.r.setRow hB, fun b off e i hi => ?_, fun b off e h0 => ?_⟩, q6.setRow (by omega), q7.setRow (by omega), q8.setRow (by omega)⟩
    · obtain ⟨b', off', e', r1, _⟩ := q5.r (by omega)
      rw [e] at e'
      cases e'
      exact (World.cell?_of_block (a := ⟨b, off + i * 5 + 4, none⟩) (key b r1)).trans (q5.g b off e i hi)
    · obtain ⟨b', off', e', r1, _⟩ := q5.r h0
      rw [e] at e'
      cases e'
      obtain ⟨β, p1, p2, p3, p4⟩ := q5.v b off e h0
      exact ⟨β, p1, p2, p3, fun i hi => (p4 i hi).setRow (by have := p2 0 i (by omega) (by omega); omega)⟩
/-- A cell of a boxed struct that is stored anew. -/
theorem tbx_set {w : World} {B : Nat} {t : Tb} {a b : Ad} (h : TBx w B t a) (j : Nat) (v : Value) (he : (tbA t a).setIfInBounds j v = tbA t b) : TBx (w.setCell ⟨B, j, none⟩ v) B t b := by
  unfold TBx at h ⊢
  rw [setCell_eq_setRow w B j (tbA t a) 33 (0, 0) v h, setRow_heap w B _ _ 33 (0, 0) h, ← he]
theorem TBx.set_other {w : World} {B B' o : Nat} {t : Tb} {a : Ad} {v : Value} (h : TBx w B t a) (hn : B' ≠ B) : TBx (w.setCell ⟨B', o, none⟩ v) B t a := by
  unfold TBx at h ⊢
  rw [block_set_other w B' B o v hn]
  exact h
theorem GBlk.other' {k B n m B' o : Nat} {w : World} {X : Nat → List Value} {v : Value} (h : GBlk k w B n m X) (hn : B' ≠ B) : GBlk k (w.setCell ⟨B', o, none⟩ v) B n m X :=
  ⟨by simpa using h.lt, fun j => by simpa using h.free j, fun i hi j hj => by
    rw [World.cell?_setCell_other _ _ _ _ (by intro c; injection c with c1 c2 c3; exact hn c1)]
    exact h.room i hi j hj, fun i hi => (h.done i hi).other hn⟩
/-- A row whose windows lie in a new block. -/
def nw (y : Rw) (b : Nat) : Rw := ⟨y.nm, y.en, y.kd, y.ms, some ⟨b, 0, none⟩, y.wn, y.wn⟩
def rowsF (Y : Nat → Rw) (b : Nat → Nat) (i : Nat) : Nat → List Value := fun j => rwL (if j < i then nw (Y j) (b j) else Y j)
theorem rows_set {w : World} {P n i : Nat} {Y : Nat → Rw} {b b' : Nat → Nat} {N : Nat} (h : GBlk 5 w P n n (rowsF Y b i)) (hi : i < n) (hb : ∀ j, j < i → b' j = b j) (hN : b' i = N) :
    GBlk 5 (w.setCell ⟨P, i * 5 + 4, none⟩ (.slice (some ⟨N, 0, none⟩) (Y i).wn (Y i).wn)) P n n (rowsF Y b' (i + 1)) := by
  refine ⟨by simpa using h.lt, fun j => by simpa using h.free j, fun q hq j hj => ?_, fun q hq j v hj => ?_⟩
  · obtain ⟨u, hu⟩ := h.room q hq j hj
    by_cases e : i * 5 + 4 = q * 5 + j
    · rw [← e] at hu ⊢
      exact ⟨_, World.cell?_setCell_same _ _ _ hu⟩
    · exact ⟨u, by rw [World.cell?_setCell_other _ _ _ _ (by intro c; injection c with c1 c2 c3; exact e c2)]; exact hu⟩
  · have hj5 : j < 5 := by
      have := (List.getElem?_eq_some_iff.1 hj).1
      simpa [rowsF, rwL] using this
    by_cases e : q = i
    · subst e
      have h0 := h.done q hq
      simp only [rowsF, if_pos (Nat.lt_succ_self q), hN] at hj
      simp only [rowsF, if_neg (Nat.lt_irrefl q)] at h0
      have : j = 0 ∨ j = 1 ∨ j = 2 ∨ j = 3 ∨ j = 4 := by omega
      rcases this with rfl | rfl | rfl | rfl | rfl
      · rw [World.cell?_setCell_other _ _ _ _ (by intro c; injection c with c1 c2 c3; omega)]
        exact h0 0 v hj
      · rw [World.cell?_setCell_other _ _ _ _ (by intro c; injection c with c1 c2 c3; omega)]
        exact h0 1 v hj
      · rw [World.cell?_setCell_other _ _ _ _ (by intro c; injection c with c1 c2 c3; omega)]
        exact h0 2 v hj
      · rw [World.cell?_setCell_other _ _ _ _ (by intro c; injection c with c1 c2 c3; omega)]
        exact h0 3 v hj
      · have hc := h0 4 _ rfl
        simp [rwL, nw] at hj
        subst hj
        exact World.cell?_setCell_same _ _ _ hc
    · rw [World.cell?_setCell_other _ _ _ _ (by intro c; injection c with c1 c2 c3; omega)]
      refine h.done q hq j v ?_
      rw [← hj]
      by_cases g : q < i
      · simp only [rowsF]
        rw [if_pos g, if_pos (by omega), hb q g]
      · simp only [rowsF]
        rw [if_neg g, if_neg (by omega)]
/-- One partition's windows copied, and told its row: in whatever order the operands are read. -/
structure Rc5 (W0 : World) (T0 P n i : Nat) (wa : Option Addr) (wn wc RB : Nat) (ws : List wiT) (w' V : World) (N : Nat) (b0 b1 b2 b3 b4 b5 b6 b7 b8 : Bool) (x17 x18 x19 x20 x21 x22 x23 x24 : Value) : Prop where
  c8 : b8 = true → b0 = true ∧ b1 = true ∧ b2 = true ∧ b3 = true ∧ b4 = true ∧ b5 = true ∧ b7 = true
  bV : Below W0.heap.size W0 V
  v0 : b8 = false → w' = V
  v1 : b8 = true → w' = V.setCell ⟨P, i * 5 + 4, none⟩ (.slice (some ⟨N, 0, none⟩) wn wn)
  f0 : b0 = true → x17 = .pointer (some ⟨T0, 15, none⟩)
  f1 : b1 = true → x18 = .slice (some ⟨P, 0, none⟩) n n
  f2 : b2 = true → x19 = .int .i64 (i : Int)
  f3 : b3 = true → x20 = .pointer (some ⟨RB, 4, none⟩)
  f4 : b4 = true → x21 = .slice wa wn wc
  f5 : b5 = true → x22 = .slice (some ⟨N, 0, none⟩) wn wn ∧ W0.heap.size ≤ N ∧ GBlk 3 V N wn wn (wiX ws)
  f6 : b6 = true → x23 = .pointer (some ⟨P, i * 5, none⟩)
  f7 : b7 = true → x24 = .pointer (some ⟨P, i * 5 + 4, none⟩)
/-- The three other lists copied, then told: in whatever order they are read. -/
structure Rc7 (W0 : World) (T0 : Nat) (t : Tb) (a : Ad) (w' V : World) (N1 N2 N3 : Nat) (b0 b1 b2 b3 b4 b5 b6 b7 b8 b9 b10 b11 b12 b13 b14 : Bool) (x26 x27 x28 x29 x30 x31 x32 x33 x34 x35 x36 x37 : Value) : Prop where
  c10 : b10 = true → b1 = true ∧ b2 = true ∧ b4 = true ∧ b5 = true ∧ b7 = true ∧ b8 = true
  c5 : b5 = true → b2 = true
  c8 : b8 = true → b5 = true
  c12 : b12 = true → b10 = true
  c14 : b14 = true → b12 = true
  bV : Below W0.heap.size W0 V
  v0 : b10 = false → w' = V
  v1 : b10 = true → b12 = false → w' = V.setCell ⟨T0, 16, none⟩ (.slice (some ⟨N1, 0, none⟩) a.dn a.dn)
  v2 : b12 = true → b14 = false → w' = (V.setCell ⟨T0, 16, none⟩ (.slice (some ⟨N1, 0, none⟩) a.dn a.dn)).setCell ⟨T0, 17, none⟩ (.slice (some ⟨N2, 0, none⟩) a.cn a.cn)
  v3 : b14 = true → w' = ((V.setCell ⟨T0, 16, none⟩ (.slice (some ⟨N1, 0, none⟩) a.dn a.dn)).setCell ⟨T0, 17, none⟩ (.slice (some ⟨N2, 0, none⟩) a.cn a.cn)).setCell ⟨T0, 18, none⟩ (.slice (some ⟨N3, 0, none⟩) a.sn a.sn)
  f0 : b0 = true → x26 = .pointer (some ⟨T0, 16, none⟩)
  f1 : b1 = true → x27 = .slice a.da a.dn a.dc
  f2 : b2 = true → x28 = .slice (some ⟨N1, 0, none⟩) a.dn a.dn ∧ W0.heap.size ≤ N1 ∧ GBlk 1 V N1 a.dn a.dn (inX t.ds)
  f3 : b3 = true → x29 = .pointer (some ⟨T0, 17, none⟩)
  f4 : b4 = true → x30 = .slice a.ca a.cn a.cc
  f5 : b5 = true → x31 = .slice (some ⟨N2, 0, none⟩) a.cn a.cn ∧ N1 < N2 ∧ GBlk 4 V N2 a.cn a.cn (chX t.cs)
  f6 : b6 = true → x32 = .pointer (some ⟨T0, 18, none⟩)
  f7 : b7 = true → x33 = .slice a.sa a.sn a.sc
  f8 : b8 = true → x34 = .slice (some ⟨N3, 0, none⟩) a.sn a.sn ∧ N2 < N3 ∧ GBlk 3 V N3 a.sn a.sn (slX t.ss)
  f9 : b9 = true → x35 = .pointer (some ⟨T0, 16, none⟩)
  f11 : b11 = true → x36 = .pointer (some ⟨T0, 17, none⟩)
  f13 : b13 = true → x37 = .pointer (some ⟨T0, 18, none⟩)
theorem otr_of {w' : World} {t : Tb} {a : Ad} {T0 P i N1 N2 N3 : Nat} {b : Nat → Nat} (h0 : T0 ≤ P) (hp : GBlk 5 w' P i i (rowsF a.Y b i)) (hw : ∀ j, j < i → GBlk 3 w' (b j) (a.Y j).wn (a.Y j).wn (wiX (t.ps.getD j pt0).ws))
    (hd : GBlk 1 w' N1 a.dn a.dn (inX t.ds)) (hc : GBlk 4 w' N2 a.cn a.cn (chX t.cs)) (hs : GBlk 3 w' N3 a.sn a.sn (slX t.ss)) (hb : ∀ j, j < i → P < b j ∧ b j < N1) (ho : ∀ j k, j < k → k < i → b j < b k) (h12 : N1 < N2) (h23 : N2 < N3)
    (hg : ∀ j, j < i → (a.Y j).nm = (t.ps.getD j pt0).nm ∧ (a.Y j).en = (t.ps.getD j pt0).en ∧ (a.Y j).kd = (t.ps.getD j pt0).kd ∧ (a.Y j).ms = (t.ps.getD j pt0).ms ∧ (t.ps.getD j pt0).ws.length = (a.Y j).wn) (hP1 : P < N1) (hTW : TW t a) (hTS : TS a) (hN : a.pn = i) :
    OTR T0 w' t ⟨some ⟨P, 0, none⟩, i, i, some ⟨N1, 0, none⟩, a.dn, a.dn, some ⟨N2, 0, none⟩, a.cn, a.cn, some ⟨N3, 0, none⟩, a.sn, a.sn, fun j => nw (a.Y j) (b j)⟩ := by
  have wr : ∀ {k B n lo hi : Nat} {X : Nat → List Value}, GBlk k w' B n n X → lo ≤ B → B < hi → WR k lo hi w' (some ⟨B, 0, none⟩) n := fun h h1 h2 _ =>
    ⟨_, 0, rfl, h1, h2, h.lt, fun i j hi hj => by rw [Nat.zero_add]; exact h.room i hi j hj, h.free⟩
  have hrows : GBlk 5 w' P i i (fun j => rwL (nw (a.Y j) (b j))) := hp.congr fun j hj => by simp [rowsF, hj]
  refine ⟨⟨⟨hrows.seg.low, fun j hj => ?_, fun h => absurd h (Nat.lt_irrefl 0)⟩, hd.seg.low, hc.seg.low, hs.seg.low⟩, ?_, ?_, ?_, Nat.le_refl _, Nat.le_refl _⟩
  · obtain ⟨g1, g2, g3, g4, g5⟩ := hg j hj
    exact ⟨g1, g2, g3, g4, g5, Nat.le_refl _, (hw j hj).seg.low⟩
  · refine ⟨N1, N2, N3, by omega, by omega, Nat.le_of_lt hs.lt, by omega, ⟨wr hrows h0 hP1, fun bb off e j hj => ?_, fun bb off e hn => ?_⟩, wr hd (Nat.le_refl _) h12, wr hc (Nat.le_refl _) h23, wr hs (Nat.le_refl _) hs.lt⟩
    · cases e
      have := (rw_cells (hrows.done j hj)).2.2.2.2
      rw [Nat.zero_add]
      exact this
    · cases e
      refine ⟨fun j => if j < i then b j else N1, ?_, fun j k hjk hk => ?_, ?_, fun j hj => ?_⟩
      · show P + 1 ≤ if 0 < i then b 0 else N1
        rw [if_pos hn]
        have := (hb 0 hn).1
        omega
      · show (if j < i then b j else N1) ≤ (if k < i then b k else N1)
        replace hk : k ≤ i := hk
        by_cases e : j = k
        · subst e; exact Nat.le_refl _
        · by_cases g : k < i
          · rw [if_pos g, if_pos (by omega)]
            have := ho j k (by omega) g
            omega
          · rw [if_neg g, if_pos (by omega)]
            have := (hb j (by omega)).2
            omega
      · show (if i < i then b i else N1) ≤ N1
        rw [if_neg (Nat.lt_irrefl _)]
        exact Nat.le_refl _
      · show WR 3 (if j < i then b j else N1) (if j + 1 < i then b (j + 1) else N1) w' (some ⟨b j, 0, none⟩) (a.Y j).wn
        rw [if_pos hj]
        refine wr (hw j hj) (Nat.le_refl _) ?_
        by_cases g : j + 1 < i
        · rw [if_pos g]
          exact ho j (j + 1) (by omega) g
        · rw [if_neg g]
          exact (hb j hj).2
  · subst hN
    exact ⟨hTW.pl, hTW.dl, hTW.cl, hTW.sl, hTW.pb, hTW.db, hTW.cb, hTW.sb, fun j hj => hTW.wb j hj, hTW.wf, hTW.sf⟩
  · subst hN
    exact ⟨hTS.p, hTS.d, hTS.c, hTS.s, fun j hj => hTS.w j hj⟩
theorem res_cpt {W : World} {B : Nat} {cs : Array Value} {tmps : Array Value} (h : W.heap[B]? = some (.cells cs 33 (0, 0))) (hl : cs.size = 19) (ht : tmps[2]? = some (.pointer (some ⟨B, 0, none⟩))) : (results Tryz.f38 tmps).run Tryz.prog W = .ok (.agg cs) W := by
  have hld : (loadVar 33 ⟨B, 0, none⟩).run Tryz.prog W = .ok (.agg cs) W := run_loadVar_row (P := Tryz.prog) W B 33 33 cs (0, 0) _ h Tryz.underlying33 rfl (by rw [hl]; kernel_rfl)
  unfold results
  rw [Tryz.results38]
  simp [ht, asAddr, hld]
set_option maxRecDepth 40000 in
set_option maxHeartbeats 16000000 in
theorem impl_cptab (t : Tb) (a : Ad) (w : World) (hm : TM 0 w t a) (hw : TW t a) (hs : TS a) :
    Calls Tryz.prog 38 #[tbV t a] w fun e w' => ∃ a', e = .returned (tbV t a') ∧ Below w.heap.size w w' ∧ OTR w.heap.size w' t a' ∧ a'.pn = a.pn ∧ a'.dn = a.dn ∧ a'.cn = a.cn ∧ a'.sn = a.sn := by
  have HTW : Hid (TW t a) := hw
  have HTS : Hid (TS a) := hs
  have hpn : a.pn ≤ 1048576 := hs.p
  have HMM : Hid (∀ X, Below w.heap.size w X → TM 0 X t a) := fun X hX => hm.below hX
  have HCP : Hid (∀ X, Below w.heap.size w X → Calls Tryz.prog 67 #[.slice a.pa a.pn a.pc] X fun e w' => e = .returned (.slice (some ⟨X.heap.size, 0, none⟩) a.pn a.pn) ∧ Below X.heap.size X w' ∧ GBlk 5 w' X.heap.size a.pn a.pn (fun i => rwL (a.Y i))) := fun X hX => cpg_prt a.pa a.pn a.pc _ X (hm.below hX).p.p1.seg (fun i => rfl) (fun i => rwX_one a.Y i) hs.p
  have HCD0 : Hid (∀ X, Below w.heap.size w X → Calls Tryz.prog 69 #[.slice a.da a.dn a.dc] X fun e w' => e = .returned (.slice (some ⟨X.heap.size, 0, none⟩) a.dn a.dn) ∧ Below X.heap.size X w' ∧ GBlk 1 w' X.heap.size a.dn a.dn (inX t.ds)) := fun X hX => cpg_int a.da a.dn a.dc _ X (hm.below hX).d.seg (fun i => rfl) (inX_one _) hs.d
  have HCC0 : Hid (∀ X, Below w.heap.size w X → Calls Tryz.prog 70 #[.slice a.ca a.cn a.cc] X fun e w' => e = .returned (.slice (some ⟨X.heap.size, 0, none⟩) a.cn a.cn) ∧ Below X.heap.size X w' ∧ GBlk 4 w' X.heap.size a.cn a.cn (chX t.cs)) := fun X hX => cpg_chn a.ca a.cn a.cc _ X (hm.below hX).c.seg (fun i => rfl) (chX_one _) hs.c
  have HCS0 : Hid (∀ X, Below w.heap.size w X → Calls Tryz.prog 71 #[.slice a.sa a.sn a.sc] X fun e w' => e = .returned (.slice (some ⟨X.heap.size, 0, none⟩) a.sn a.sn) ∧ Below X.heap.size X w' ∧ GBlk 3 w' X.heap.size a.sn a.sn (slX t.ss)) := fun X hX => cpg_slt a.sa a.sn a.sc _ X (hm.below hX).s.seg (fun i => rfl) (slX_one _) hs.s
  have HCW0 : Hid (∀ i, i < a.pn → ∀ X, Below w.heap.size w X → Calls Tryz.prog 68 #[.slice (a.Y i).wa (a.Y i).wn (a.Y i).wc] X fun e w' => e = .returned (.slice (some ⟨X.heap.size, 0, none⟩) (a.Y i).wn (a.Y i).wn) ∧ Below X.heap.size X w' ∧ GBlk 3 w' X.heap.size (a.Y i).wn (a.Y i).wn (wiX (t.ps.getD i pt0).ws)) := fun i hi X hX => cpg_win _ _ _ _ X ((hm.below hX).p.p2 i hi).sg.seg (fun i => rfl) (wiX_one _) (hs.w i hi).1
  have HGD : Hid (∀ i, i < a.pn → (a.Y i).nm = (t.ps.getD i pt0).nm ∧ (a.Y i).en = (t.ps.getD i pt0).en ∧ (a.Y i).kd = (t.ps.getD i pt0).kd ∧ (a.Y i).ms = (t.ps.getD i pt0).ms ∧ (t.ps.getD i pt0).ws.length = (a.Y i).wn) := fun i hi => ⟨(hm.p.p2 i hi).nm, (hm.p.p2 i hi).en, (hm.p.p2 i hi).kd, (hm.p.p2 i hi).ms, (hm.p.p2 i hi).ln⟩
  have HB0 : Hid (Below w.heap.size w (w.alloc (.cells (tbA t a) 33))) := (Below.refl _ _).alloc (Nat.le_refl _) _
  have HX0 : Hid (TBx (w.alloc (.cells (tbA t a) 33)) w.heap.size t a) := TBx.new w t a _ rfl
  have hbA : Below (w.alloc (.cells (tbA t a) 33)).heap.size (w.alloc (.cells (tbA t a) 33)) ((w.alloc (.cells (tbA t a) 33)).alloc (.cells #[.int .i64 0, .int .i64 0, .int .i64 0, .int .i64 0, .int .i64 0, .int .i64 0, .int .i64 0, .int .i64 0, .int .i64 0, .int .i64 0, .int .i64 0, .int .i64 0, .int .i64 0, .int .i64 0, .int .i64 0, .slice none 0 0, .slice none 0 0, .slice none 0 0, .slice none 0 0] 33)) := (Below.refl _ _).alloc (Nat.le_refl _) _
  have HBA : Hid (Below w.heap.size w ((w.alloc (.cells (tbA t a) 33)).alloc (.cells #[.int .i64 0, .int .i64 0, .int .i64 0, .int .i64 0, .int .i64 0, .int .i64 0, .int .i64 0, .int .i64 0, .int .i64 0, .int .i64 0, .int .i64 0, .int .i64 0, .int .i64 0, .int .i64 0, .int .i64 0, .slice none 0 0, .slice none 0 0, .slice none 0 0, .slice none 0 0] 33))) := HB0.out.trans (hbA.mono HB0.out.size)
  have HXA : Hid (TBx ((w.alloc (.cells (tbA t a) 33)).alloc (.cells #[.int .i64 0, .int .i64 0, .int .i64 0, .int .i64 0, .int .i64 0, .int .i64 0, .int .i64 0, .int .i64 0, .int .i64 0, .int .i64 0, .int .i64 0, .int .i64 0, .int .i64 0, .int .i64 0, .int .i64 0, .slice none 0 0, .slice none 0 0, .slice none 0 0, .slice none 0 0] 33)) w.heap.size t a) := HX0.out.below hbA
  have HRA : Hid (((w.alloc (.cells (tbA t a) 33)).alloc (.cells #[.int .i64 0, .int .i64 0, .int .i64 0, .int .i64 0, .int .i64 0, .int .i64 0, .int .i64 0, .int .i64 0, .int .i64 0, .int .i64 0, .int .i64 0, .int .i64 0, .int .i64 0, .int .i64 0, .int .i64 0, .slice none 0 0, .slice none 0 0, .slice none 0 0, .slice none 0 0] 33)).heap[w.heap.size + 1]? = some (.cells #[.int .i64 0, .int .i64 0, .int .i64 0, .int .i64 0, .int .i64 0, .int .i64 0, .int .i64 0, .int .i64 0, .int .i64 0, .int .i64 0, .int .i64 0, .int .i64 0, .int .i64 0, .int .i64 0, .int .i64 0, .slice none 0 0, .slice none 0 0, .slice none 0 0, .slice none 0 0] 33 (0, 0))) := new_row (w.alloc (.cells (tbA t a) 33)) _ _ _ (by simp)
  have HSA : Hid (((w.alloc (.cells (tbA t a) 33)).alloc (.cells #[.int .i64 0, .int .i64 0, .int .i64 0, .int .i64 0, .int .i64 0, .int .i64 0, .int .i64 0, .int .i64 0, .int .i64 0, .int .i64 0, .int .i64 0, .int .i64 0, .int .i64 0, .int .i64 0, .int .i64 0, .slice none 0 0, .slice none 0 0, .slice none 0 0, .slice none 0 0] 33)).heap.size = w.heap.size + 2) := by show _ = _; simp
  have k15 : ((w.alloc (.cells (tbA t a) 33)).alloc (.cells #[.int .i64 0, .int .i64 0, .int .i64 0, .int .i64 0, .int .i64 0, .int .i64 0, .int .i64 0, .int .i64 0, .int .i64 0, .int .i64 0, .int .i64 0, .int .i64 0, .int .i64 0, .int .i64 0, .int .i64 0, .slice none 0 0, .slice none 0 0, .slice none 0 0, .slice none 0 0] 33)).cell? ⟨w.heap.size, 15, none⟩ = some (.slice a.pa a.pn a.pc) := HXA.out.cell 15 rfl
  clear hbA HB0 HX0 hm hw hs
  go_enter Tryz.func38, Tryz.ntmps38
  go_wp2_with fail
  refine Calls.mono (HCP.out _ HBA.out) ?_
  rintro e w1 ⟨rfl, hb1, hg1⟩
  have HB1 : Hid (Below w.heap.size w w1) := HBA.out.trans (hb1.mono HBA.out.size)
  have HX1 : Hid (TBx w1 w.heap.size t a) := HXA.out.below hb1
  have HR1 : Hid (w1.heap[w.heap.size + 1]? = some (.cells #[.int .i64 0, .int .i64 0, .int .i64 0, .int .i64 0, .int .i64 0, .int .i64 0, .int .i64 0, .int .i64 0, .int .i64 0, .int .i64 0, .int .i64 0, .int .i64 0, .int .i64 0, .int .i64 0, .int .i64 0, .slice none 0 0, .slice none 0 0, .slice none 0 0, .slice none 0 0] 33 (0, 0))) := row_below HRA.out hb1
  have HG1 : Hid (GBlk 5 w1 (w.heap.size + 2) a.pn a.pn (fun i => rwL (a.Y i))) := by
    have := hg1
    rw [HSA.out] at this
    exact this
  rw [HSA.out]
  clear hb1 hg1 HBA HXA HRA k15 HCP HSA
  obtain ⟨T0, HT0⟩ : ∃ T0, Hid (w.heap.size = T0) := ⟨_, rfl⟩
  obtain ⟨n, HN⟩ : ∃ n, Hid (a.pn = n) := ⟨_, rfl⟩
  obtain ⟨a1, HA1⟩ : ∃ a1 : Ad, Hid (a1 = ⟨some ⟨T0 + 2, 0, none⟩, n, n, a.da, a.dn, a.dc, a.ca, a.cn, a.cc, a.sa, a.sn, a.sc, a.Y⟩) := ⟨_, rfl⟩
  have HBL : Hid (∀ X, Below T0 w X → Below w.heap.size w X) := fun X hX => by rw [HT0.out]; exact hX
  rw [HT0.out] at HX1 HR1 HG1 HB1
  rw [HN.out] at HG1 hpn
  rw [HT0.out, HN.out]
  have HXS : Hid (TBx (w1.setCell ⟨T0, 15, none⟩ (.slice (some ⟨T0 + 2, 0, none⟩) n n)) T0 t a1) := tbx_set HX1.out 15 _ (by rw [HA1.out]; rfl)
  have HRS : Hid ((w1.setCell ⟨T0, 15, none⟩ (.slice (some ⟨T0 + 2, 0, none⟩) n n)).heap[T0 + 1]? = some (.cells #[.int .i64 0, .int .i64 0, .int .i64 0, .int .i64 0, .int .i64 0, .int .i64 0, .int .i64 0, .int .i64 0, .int .i64 0, .int .i64 0, .int .i64 0, .int .i64 0, .int .i64 0, .int .i64 0, .int .i64 0, .slice none 0 0, .slice none 0 0, .slice none 0 0, .slice none 0 0] 33 (0, 0))) := (block_set_other _ _ _ _ _ (by omega)).trans HR1.out
  have HGS : Hid (GBlk 5 (w1.setCell ⟨T0, 15, none⟩ (.slice (some ⟨T0 + 2, 0, none⟩) n n)) (T0 + 2) n n (rowsF a.Y (fun _ => 0) 0)) := (HG1.out.other' (by omega)).congr fun i hi => by simp [rowsF]
  have HBS : Hid (Below T0 w (w1.setCell ⟨T0, 15, none⟩ (.slice (some ⟨T0 + 2, 0, none⟩) n n))) := HB1.out.setCell (p := ⟨T0, 15, none⟩) (Nat.le_refl _) _
  have k15 : w1.cell? ⟨T0, 15, none⟩ = some (.slice a.pa a.pn a.pc) := HX1.out.cell 15 rfl
  have kf : w1.frozen? ⟨T0, 15, none⟩ = false := by have := HX1.out; unfold TBx at this; simp [World.frozen?, this]
  have k15s : (w1.setCell ⟨T0, 15, none⟩ (.slice (some ⟨T0 + 2, 0, none⟩) n n)).cell? ⟨T0, 15, none⟩ = some (.slice (some ⟨T0 + 2, 0, none⟩) n n) := World.cell?_setCell_same _ _ _ k15
  clear HB1 HX1 HR1 HG1
  go_wp2
  clear k15 kf k15s
  revert HXS HRS HGS HBS
  generalize w1.setCell ⟨T0, 15, none⟩ (.slice (some ⟨T0 + 2, 0, none⟩) n n) = W1
  intro HXS HRS HGS HBS
  have HI0 : Hid (∀ j, j < 0 → T0 + 2 < (fun _ => 0 : Nat → Nat) j ∧ (fun _ => 0 : Nat → Nat) j < W1.heap.size ∧ GBlk 3 W1 ((fun _ => 0 : Nat → Nat) j) (a.Y j).wn (a.Y j).wn (wiX (t.ps.getD j pt0).ws)) := fun j hj => by omega
  go_loopw [12] (fun vi wr => ∃ (i : Nat) (b : Nat → Nat), i ≤ n ∧ vi = .int .i64 i ∧ Hid (Below T0 w wr) ∧ Hid (TBx wr T0 t a1) ∧ Hid (wr.heap[T0 + 1]? = some (.cells #[.int .i64 0, .int .i64 0, .int .i64 0, .int .i64 0, .int .i64 0, .int .i64 0, .int .i64 0, .int .i64 0, .int .i64 0, .int .i64 0, .int .i64 0, .int .i64 0, .int .i64 0, .int .i64 0, .int .i64 0, .slice none 0 0, .slice none 0 0, .slice none 0 0, .slice none 0 0] 33 (0, 0))) ∧ Hid (GBlk 5 wr (T0 + 2) n n (rowsF a.Y b i)) ∧ Hid (∀ j, j < i → T0 + 2 < b j ∧ b j < wr.heap.size ∧ GBlk 3 wr (b j) (a.Y j).wn (a.Y j).wn (wiX (t.ps.getD j pt0).ws)) ∧ Hid (∀ j k, j < k → k < i → b j < b k)) (fun vi _ => n - (intOf vi).toNat)
  case atStart => exact ⟨0, fun _ => 0, by omega, rfl, HBS.out, HXS.out, HRS.out, HGS.out, HI0.out, fun j k _ hk => by omega⟩
  case round =>
    clear HXS HRS HGS HBS HI0
    obtain ⟨i, b, hi, rfl, HBW, HXW, HRW, HGW, HWW, HOW⟩ := hrel
    by_cases hlt : i < n
    rotate_left
    · obtain rfl : i = n := by omega
      have HNL : Hid (T0 + 2 < wr.heap.size) := HGW.out.lt
      have hni : ¬ ((i : Int) < (i : Int)) := by omega
      have HXG : Hid (∀ X, Below wr.heap.size wr X → TBx X T0 t ⟨some ⟨T0 + 2, 0, none⟩, i, i, a.da, a.dn, a.dc, a.ca, a.cn, a.cc, a.sa, a.sn, a.sc, a.Y⟩) := fun X hX => by
        have := HXW.out.below hX
        rw [HA1.out] at this
        exact this
      have HBW2 : Hid (∀ X, Below wr.heap.size wr X → Below w.heap.size w X) := fun X hX => HBL.out X (HBW.out.trans (hX.mono (by have := HNL.out; omega)))
      have HCD : Hid (∀ X, Below wr.heap.size wr X → Calls Tryz.prog 69 #[.slice a.da a.dn a.dc] X fun e w' => e = .returned (.slice (some ⟨X.heap.size, 0, none⟩) a.dn a.dn) ∧ Below X.heap.size X w' ∧ GBlk 1 w' X.heap.size a.dn a.dn (inX t.ds)) := fun X hX => HCD0.out X (HBW2.out X hX)
      have HCC : Hid (∀ X, Below wr.heap.size wr X → Calls Tryz.prog 70 #[.slice a.ca a.cn a.cc] X fun e w' => e = .returned (.slice (some ⟨X.heap.size, 0, none⟩) a.cn a.cn) ∧ Below X.heap.size X w' ∧ GBlk 4 w' X.heap.size a.cn a.cn (chX t.cs)) := fun X hX => HCC0.out X (HBW2.out X hX)
      have HCS : Hid (∀ X, Below wr.heap.size wr X → Calls Tryz.prog 71 #[.slice a.sa a.sn a.sc] X fun e w' => e = .returned (.slice (some ⟨X.heap.size, 0, none⟩) a.sn a.sn) ∧ Below X.heap.size X w' ∧ GBlk 3 w' X.heap.size a.sn a.sn (slX t.ss)) := fun X hX => HCS0.out X (HBW2.out X hX)
      have HTC : Hid (∀ X, Below wr.heap.size wr X → X.cell? ⟨T0, 16, none⟩ = some (.slice a.da a.dn a.dc) ∧ X.cell? ⟨T0, 17, none⟩ = some (.slice a.ca a.cn a.cc) ∧ X.cell? ⟨T0, 18, none⟩ = some (.slice a.sa a.sn a.sc) ∧ ∀ j, X.frozen? ⟨T0, j, none⟩ = false) := fun X hX => by
        have h := HXG.out X hX
        refine ⟨h.cell 16 rfl, h.cell 17 rfl, h.cell 18 rfl, fun j => ?_⟩
        unfold TBx at h
        simp [World.frozen?, h]
      clear HCD0 HCC0 HCS0 HCW0
      go_wp2
      refine wp_region_inv (by kernel_rfl) (by kernel_rfl) (fun A ℓ a' w' => ∃ (V : World) (N1 : Nat) (N2 : Nat) (N3 : Nat) (x26 x27 x28 x29 x30 x31 x32 x33 x34 x35 x36 x37 : Value), a' = ((((((((((((A.put (some 26) x26).put (some 27) x27).put (some 28) x28).put (some 29) x29).put (some 30) x30).put (some 31) x31).put (some 32) x32).put (some 33) x33).put (some 34) x34).put (some 35) x35).put (some 36) x36).put (some 37) x37) ∧ Rc7 wr T0 t a w' V N1 N2 N3 (ℓ 0) (ℓ 1) (ℓ 2) (ℓ 3) (ℓ 4) (ℓ 5) (ℓ 6) (ℓ 7) (ℓ 8) (ℓ 9) (ℓ 10) (ℓ 11) (ℓ 12) (ℓ 13) (ℓ 14) x26 x27 x28 x29 x30 x31 x32 x33 x34 x35 x36 x37) ?_ ?_ ?_ ?_
      · exact ⟨wr.drew, 0, 0, 0, undef, undef, undef, undef, undef, undef, undef, undef, undef, undef, undef, undef, (by simp only [Act.put, List.setIfInBounds_toArray, List.set_cons_zero, List.set_cons_succ]), ⟨(fun g => by cases g), (fun g => by cases g), (fun g => by cases g), (fun g => by cases g), (fun g => by cases g), (Below.refl _ _).drew, (fun _ => rfl), (fun g => by cases g), (fun g => by cases g), (fun g => by cases g), (fun g => by cases g), (fun g => by cases g), (fun g => by cases g), (fun g => by cases g), (fun g => by cases g), (fun g => by cases g), (fun g => by cases g), (fun g => by cases g), (fun g => by cases g), (fun g => by cases g), (fun g => by cases g), (fun g => by cases g)⟩⟩
      · intro ℓ a' w' hI hall
        obtain ⟨V, N1, N2, N3, x26, x27, x28, x29, x30, x31, x32, x33, x34, x35, x36, x37, rfl, hr⟩ := hI
        have hall' : ∀ i, i < 15 → ℓ i = true := hall
        have hv := hr.v3 (hall' 14 (by decide))
        have hbV := hr.bV
        obtain ⟨_, hN1, hg1⟩ := hr.f2 (hall' 2 (by decide))
        obtain ⟨_, hN2, hg2⟩ := hr.f5 (hall' 5 (by decide))
        obtain ⟨_, hN3, hg3⟩ := hr.f8 (hall' 8 (by decide))
        clear hr hall hall'
        obtain ⟨af, HAF⟩ : ∃ af : Ad, Hid (af = ⟨some ⟨T0 + 2, 0, none⟩, i, i, some ⟨N1, 0, none⟩, a.dn, a.dn, some ⟨N2, 0, none⟩, a.cn, a.cn, some ⟨N3, 0, none⟩, a.sn, a.sn, fun j => nw (a.Y j) (b j)⟩) := ⟨_, rfl⟩
        have HNL := HNL.out
        have HB9 : Hid (Below T0 w w') := by
          show Below _ _ _
          rw [hv]
          exact (((HBW.out.trans (hbV.mono (by omega))).setCell (p := ⟨T0, 16, none⟩) (Nat.le_refl _) _).setCell (p := ⟨T0, 17, none⟩) (Nat.le_refl _) _).setCell (p := ⟨T0, 18, none⟩) (Nat.le_refl _) _
        have HX9 : Hid (w'.heap[T0]? = some (.cells (tbA t af) 33 (0, 0))) := by
          have h0 := HXW.out.below hbV
          rw [HA1.out] at h0
          have h1 := tbx_set (b := ⟨some ⟨T0 + 2, 0, none⟩, i, i, some ⟨N1, 0, none⟩, a.dn, a.dn, a.ca, a.cn, a.cc, a.sa, a.sn, a.sc, a.Y⟩) h0 16 (.slice (some ⟨N1, 0, none⟩) a.dn a.dn) rfl
          have h2 := tbx_set (b := ⟨some ⟨T0 + 2, 0, none⟩, i, i, some ⟨N1, 0, none⟩, a.dn, a.dn, some ⟨N2, 0, none⟩, a.cn, a.cn, a.sa, a.sn, a.sc, a.Y⟩) h1 17 (.slice (some ⟨N2, 0, none⟩) a.cn a.cn) rfl
          have h3 := tbx_set (b := ⟨some ⟨T0 + 2, 0, none⟩, i, i, some ⟨N1, 0, none⟩, a.dn, a.dn, some ⟨N2, 0, none⟩, a.cn, a.cn, some ⟨N3, 0, none⟩, a.sn, a.sn, fun j => nw (a.Y j) (b j)⟩) h2 18 (.slice (some ⟨N3, 0, none⟩) a.sn a.sn) rfl
          rw [← hv, ← HAF.out] at h3
          exact h3
        have HR9 : Hid (w'.heap[T0 + 1]? = some (.cells #[.int .i64 0, .int .i64 0, .int .i64 0, .int .i64 0, .int .i64 0, .int .i64 0, .int .i64 0, .int .i64 0, .int .i64 0, .int .i64 0, .int .i64 0, .int .i64 0, .int .i64 0, .int .i64 0, .int .i64 0, .slice none 0 0, .slice none 0 0, .slice none 0 0, .slice none 0 0] 33 (0, 0))) := by
          show _ = _
          rw [hv, block_set_other _ _ _ _ _ (by omega), block_set_other _ _ _ _ _ (by omega), block_set_other _ _ _ _ _ (by omega)]
          exact row_below HRW.out hbV
        have hsz : w'.heap.size = V.heap.size := by rw [hv]; simp
        have oth : ∀ {k B n m : Nat} {X : Nat → List Value}, T0 ≠ B → GBlk k V B n m X → GBlk k w' B n m X := fun hn h => by
          rw [hv]
          exact ((h.other' hn).other' hn).other' hn
        have hp := oth (by omega) (HGW.out.below hbV)
        have hd := oth (by omega) hg1
        have hc := oth (by omega) hg2
        have hs := oth (by omega) hg3
        have hwi : ∀ j, j < i → GBlk 3 w' (b j) (a.Y j).wn (a.Y j).wn (wiX (t.ps.getD j pt0).ws) := fun j hj => oth (by have := (HWW.out j hj).1; omega) ((HWW.out j hj).2.2.below hbV)
        have hbj : ∀ j, j < i → T0 + 2 < b j ∧ b j < N1 := fun j hj => ⟨(HWW.out j hj).1, by have := (HWW.out j hj).2.1; omega⟩
        have HOT : Hid (OTR (T0 + 2) w' t af) := by
          show OTR _ _ _ _
          rw [HAF.out]
          exact otr_of (P := T0 + 2) (Nat.le_refl _) hp hwi hd hc hs hbj HOW.out hN2 hN3 (fun j hj => HGD.out j (by rw [HN.out]; exact hj)) (by omega) HTW.out HTS.out HN.out
        have HPN : Hid (af.pn = i ∧ af.dn = a.dn ∧ af.cn = a.cn ∧ af.sn = a.sn) := by rw [HAF.out]; exact ⟨rfl, rfl, rfl, rfl⟩
        have HRF : Hid ((w'.setRow (T0 + 1) (tbA t af)).heap[T0 + 1]? = some (.cells (tbA t af) 33 (0, 0))) := setRow_heap _ _ _ _ _ _ HR9.out
        have HBF : Hid (Below T0 w (w'.setRow (T0 + 1) (tbA t af))) := below_setRow HB9.out (by omega) _
        have HOF : Hid (OTR (T0 + 2) (w'.setRow (T0 + 1) (tbA t af)) t af) := HOT.out.setRow (by omega)
        simp only [Act.put, List.setIfInBounds_toArray, List.set_cons_zero, List.set_cons_succ]
        clear hv hbV hg1 hg2 hg3 hp hd hc hs hwi hbj oth hsz
        go_wp2_with (first | (refine wpList_load_row rfl 33 (.tmp 1) rfl T0 rfl 33 (tbA t af) (0, 0) _ HX9.out Tryz.underlying33 rfl (by kernel_rfl) ?_) | (refine wpList_store_row rfl 33 (.tmp 2) (.tmp 38) rfl (T0 + 1) (tbA t af) rfl rfl 33 #[.int .i64 0, .int .i64 0, .int .i64 0, .int .i64 0, .int .i64 0, .int .i64 0, .int .i64 0, .int .i64 0, .int .i64 0, .int .i64 0, .int .i64 0, .int .i64 0, .int .i64 0, .int .i64 0, .int .i64 0, .slice none 0 0, .slice none 0 0, .slice none 0 0, .slice none 0 0] HR9.out (by kernel_rfl) rfl (by simp [Value.oneCell']) ?_) | fail)
        revert HRF HBF HOF
        generalize w'.setRow (T0 + 1) (tbA t af) = WF
        intro HRF HBF HOF
        go_wp2
        refine bodyPost_ret (v := tbV t af) (res_cpt HRF.out rfl rfl) rfl ⟨af, rfl, ?_, ?_, HPN.out.1.trans ?_, HPN.out.2⟩
        · rw [HT0.out]; exact HBF.out
        · rw [HT0.out]; exact ⟨HOF.out.m, HOF.out.o.wide (by omega) (Nat.le_refl _), HOF.out.w, HOF.out.s, HOF.out.cp, HOF.out.cs⟩
        · exact HN.out.symm
      · intro ℓ a' w' q o hI ho hi hL hdep K hK
        obtain ⟨V, N1, N2, N3, x26, x27, x28, x29, x30, x31, x32, x33, x34, x35, x36, x37, rfl, hr⟩ := hI
        have hi7 : q < 15 := hi
        have hcs : q = 0 ∨ q = 1 ∨ q = 2 ∨ q = 3 ∨ q = 4 ∨ q = 5 ∨ q = 6 ∨ q = 7 ∨ q = 8 ∨ q = 9 ∨ q = 10 ∨ q = 11 ∨ q = 12 ∨ q = 13 ∨ q = 14 := by omega
        clear hi hi7
        rcases hcs with rfl | rfl | rfl | rfl | rfl | rfl | rfl | rfl | rfl | rfl | rfl | rfl | rfl | rfl | rfl
        · revert hK
          obtain rfl := Option.some.inj ho
          clear hdep ho
          intro hK
          rw [if_pos (by rfl)]
          try simp only [Act.put, List.setIfInBounds_toArray, List.set_cons_zero, List.set_cons_succ]
          go_simp
          exact hK.out _ _ (fun j => if j = 0 then true else ℓ j) ⟨V, N1, N2, N3, .pointer (some ⟨T0, 16, none⟩), x27, x28, x29, x30, x31, x32, x33, x34, x35, x36, x37, (by simp only [Act.put, List.setIfInBounds_toArray, List.set_cons_zero, List.set_cons_succ]), ⟨hr.c10, hr.c5, hr.c8, hr.c12, hr.c14, hr.bV, hr.v0, hr.v1, hr.v2, hr.v3, (fun _ => rfl), hr.f1, hr.f2, hr.f3, hr.f4, hr.f5, hr.f6, hr.f7, hr.f8, hr.f9, hr.f11, hr.f13⟩⟩ (if_pos rfl) (fun j hj => if_neg hj)
        · revert hK
          obtain rfl := Option.some.inj ho
          have g0 : ℓ 0 = true := hdep { on := 0, ground := Ground.data } (by simp) rfl
          clear hdep ho
          have hl10 : ℓ 10 = false := by
            cases h7 : ℓ 10
            · rfl
            · have := (hr.c10 h7).1; rw [this] at hL; cases hL
          obtain rfl := hr.f0 g0
          have hwv := hr.v0 hl10
          have cc : w'.cell? ⟨T0, 16, none⟩ = some (.slice a.da a.dn a.dc) := by rw [hwv]; exact (HXG.out _ hr.bV).cell 16 rfl
          clear hwv
          intro hK
          rw [if_pos (by rfl)]
          try simp only [Act.put, List.setIfInBounds_toArray, List.set_cons_zero, List.set_cons_succ]
          go_simp
          exact hK.out _ _ (fun j => if j = 1 then true else ℓ j) ⟨V, N1, N2, N3, .pointer (some ⟨T0, 16, none⟩), .slice a.da a.dn a.dc, x28, x29, x30, x31, x32, x33, x34, x35, x36, x37, (by simp only [Act.put, List.setIfInBounds_toArray, List.set_cons_zero, List.set_cons_succ]), ⟨(fun g => ⟨rfl, (hr.c10 g).2.1, (hr.c10 g).2.2.1, (hr.c10 g).2.2.2.1, (hr.c10 g).2.2.2.2.1, (hr.c10 g).2.2.2.2.2⟩), hr.c5, hr.c8, hr.c12, hr.c14, hr.bV, hr.v0, hr.v1, hr.v2, hr.v3, hr.f0, (fun _ => rfl), hr.f2, hr.f3, hr.f4, hr.f5, hr.f6, hr.f7, hr.f8, hr.f9, hr.f11, hr.f13⟩⟩ (if_pos rfl) (fun j hj => if_neg hj)
        · revert hK
          obtain rfl := Option.some.inj ho
          have g1 : ℓ 1 = true := hdep { on := 1, ground := Ground.data } (by simp) rfl
          clear hdep ho
          have hl10 : ℓ 10 = false := by
            cases h7 : ℓ 10
            · rfl
            · have := (hr.c10 h7).2.1; rw [this] at hL; cases hL
          obtain rfl := hr.f1 g1
          obtain rfl := hr.v0 hl10
          have hbV := hr.bV
          intro hK
          rw [if_pos (by rfl)]
          try simp only [Act.put, List.setIfInBounds_toArray, List.set_cons_zero, List.set_cons_succ]
          go_simp
          refine Calls.mono (HCD.out _ hbV) ?_
          rintro e w9 ⟨rfl, hb9, hg9⟩
          have hb9' : Below wr.heap.size wr w9 := hbV.trans (hb9.mono hbV.size)
          exact hK.out _ _ (fun j => if j = 2 then true else ℓ j) ⟨w9, w'.heap.size, N2, N3, x26, .slice a.da a.dn a.dc, .slice (some ⟨w'.heap.size, 0, none⟩) a.dn a.dn, x29, x30, x31, x32, x33, x34, x35, x36, x37, (by simp only [Act.put, List.setIfInBounds_toArray, List.set_cons_zero, List.set_cons_succ]), ⟨(fun g => ⟨(hr.c10 g).1, rfl, (hr.c10 g).2.2.1, (hr.c10 g).2.2.2.1, (hr.c10 g).2.2.2.2.1, (hr.c10 g).2.2.2.2.2⟩), (fun _ => rfl), hr.c8, hr.c12, hr.c14, hb9', (fun _ => rfl), (fun g => absurd (hl10.symm.trans g) Bool.false_ne_true), (fun g => absurd (hl10.symm.trans (hr.c12 g)) Bool.false_ne_true), (fun g => absurd (hl10.symm.trans (hr.c12 (hr.c14 g))) Bool.false_ne_true), hr.f0, hr.f1, (fun _ => ⟨rfl, hbV.size, hg9⟩), hr.f3, hr.f4, (fun g => by have g2 : ℓ 5 = true := g; have := hr.c5 g2; rw [this] at hL; cases hL), hr.f6, hr.f7, (fun g => by have g2 : ℓ 8 = true := g; have := hr.c5 (hr.c8 g2); rw [this] at hL; cases hL), hr.f9, hr.f11, hr.f13⟩⟩ (if_pos rfl) (fun j hj => if_neg hj)
        · revert hK
          obtain rfl := Option.some.inj ho
          clear hdep ho
          intro hK
          rw [if_pos (by rfl)]
          try simp only [Act.put, List.setIfInBounds_toArray, List.set_cons_zero, List.set_cons_succ]
          go_simp
          exact hK.out _ _ (fun j => if j = 3 then true else ℓ j) ⟨V, N1, N2, N3, x26, x27, x28, .pointer (some ⟨T0, 17, none⟩), x30, x31, x32, x33, x34, x35, x36, x37, (by simp only [Act.put, List.setIfInBounds_toArray, List.set_cons_zero, List.set_cons_succ]), ⟨hr.c10, hr.c5, hr.c8, hr.c12, hr.c14, hr.bV, hr.v0, hr.v1, hr.v2, hr.v3, hr.f0, hr.f1, hr.f2, (fun _ => rfl), hr.f4, hr.f5, hr.f6, hr.f7, hr.f8, hr.f9, hr.f11, hr.f13⟩⟩ (if_pos rfl) (fun j hj => if_neg hj)
        · revert hK
          obtain rfl := Option.some.inj ho
          have g3 : ℓ 3 = true := hdep { on := 3, ground := Ground.data } (by simp) rfl
          clear hdep ho
          have hl10 : ℓ 10 = false := by
            cases h7 : ℓ 10
            · rfl
            · have := (hr.c10 h7).2.2.1; rw [this] at hL; cases hL
          obtain rfl := hr.f3 g3
          have hwv := hr.v0 hl10
          have cc : w'.cell? ⟨T0, 17, none⟩ = some (.slice a.ca a.cn a.cc) := by rw [hwv]; exact (HXG.out _ hr.bV).cell 17 rfl
          clear hwv
          intro hK
          rw [if_pos (by rfl)]
          try simp only [Act.put, List.setIfInBounds_toArray, List.set_cons_zero, List.set_cons_succ]
          go_simp
          exact hK.out _ _ (fun j => if j = 4 then true else ℓ j) ⟨V, N1, N2, N3, x26, x27, x28, .pointer (some ⟨T0, 17, none⟩), .slice a.ca a.cn a.cc, x31, x32, x33, x34, x35, x36, x37, (by simp only [Act.put, List.setIfInBounds_toArray, List.set_cons_zero, List.set_cons_succ]), ⟨(fun g => ⟨(hr.c10 g).1, (hr.c10 g).2.1, rfl, (hr.c10 g).2.2.2.1, (hr.c10 g).2.2.2.2.1, (hr.c10 g).2.2.2.2.2⟩), hr.c5, hr.c8, hr.c12, hr.c14, hr.bV, hr.v0, hr.v1, hr.v2, hr.v3, hr.f0, hr.f1, hr.f2, hr.f3, (fun _ => rfl), hr.f5, hr.f6, hr.f7, hr.f8, hr.f9, hr.f11, hr.f13⟩⟩ (if_pos rfl) (fun j hj => if_neg hj)
        · revert hK
          obtain rfl := Option.some.inj ho
          have g4 : ℓ 4 = true := hdep { on := 4, ground := Ground.data } (by simp) rfl
          have g2 : ℓ 2 = true := hdep { on := 2, ground := Ground.chain } (by simp) rfl
          clear hdep ho
          have hl10 : ℓ 10 = false := by
            cases h7 : ℓ 10
            · rfl
            · have := (hr.c10 h7).2.2.2.1; rw [this] at hL; cases hL
          obtain rfl := hr.f4 g4
          obtain rfl := hr.v0 hl10
          have hbV := hr.bV
          intro hK
          rw [if_pos (by rfl)]
          try simp only [Act.put, List.setIfInBounds_toArray, List.set_cons_zero, List.set_cons_succ]
          go_simp
          refine Calls.mono (HCC.out _ hbV) ?_
          rintro e w9 ⟨rfl, hb9, hg9⟩
          have hb9' : Below wr.heap.size wr w9 := hbV.trans (hb9.mono hbV.size)
          exact hK.out _ _ (fun j => if j = 5 then true else ℓ j) ⟨w9, N1, w'.heap.size, N3, x26, x27, x28, x29, .slice a.ca a.cn a.cc, .slice (some ⟨w'.heap.size, 0, none⟩) a.cn a.cn, x32, x33, x34, x35, x36, x37, (by simp only [Act.put, List.setIfInBounds_toArray, List.set_cons_zero, List.set_cons_succ]), ⟨(fun g => ⟨(hr.c10 g).1, (hr.c10 g).2.1, (hr.c10 g).2.2.1, rfl, (hr.c10 g).2.2.2.2.1, (hr.c10 g).2.2.2.2.2⟩), (fun _ => g2), (fun _ => rfl), hr.c12, hr.c14, hb9', (fun _ => rfl), (fun g => absurd (hl10.symm.trans g) Bool.false_ne_true), (fun g => absurd (hl10.symm.trans (hr.c12 g)) Bool.false_ne_true), (fun g => absurd (hl10.symm.trans (hr.c12 (hr.c14 g))) Bool.false_ne_true), hr.f0, hr.f1, (fun g => ⟨(hr.f2 g).1, (hr.f2 g).2.1, (hr.f2 g).2.2.below hb9⟩), hr.f3, hr.f4, (fun _ => ⟨rfl, (hr.f2 g2).2.2.lt, hg9⟩), hr.f6, hr.f7, (fun g => by have g2 : ℓ 8 = true := g; have := hr.c8 g2; rw [this] at hL; cases hL), hr.f9, hr.f11, hr.f13⟩⟩ (if_pos rfl) (fun j hj => if_neg hj)
        · revert hK
          obtain rfl := Option.some.inj ho
          clear hdep ho
          intro hK
          rw [if_pos (by rfl)]
          try simp only [Act.put, List.setIfInBounds_toArray, List.set_cons_zero, List.set_cons_succ]
          go_simp
          exact hK.out _ _ (fun j => if j = 6 then true else ℓ j) ⟨V, N1, N2, N3, x26, x27, x28, x29, x30, x31, .pointer (some ⟨T0, 18, none⟩), x33, x34, x35, x36, x37, (by simp only [Act.put, List.setIfInBounds_toArray, List.set_cons_zero, List.set_cons_succ]), ⟨hr.c10, hr.c5, hr.c8, hr.c12, hr.c14, hr.bV, hr.v0, hr.v1, hr.v2, hr.v3, hr.f0, hr.f1, hr.f2, hr.f3, hr.f4, hr.f5, (fun _ => rfl), hr.f7, hr.f8, hr.f9, hr.f11, hr.f13⟩⟩ (if_pos rfl) (fun j hj => if_neg hj)
        · revert hK
          obtain rfl := Option.some.inj ho
          have g6 : ℓ 6 = true := hdep { on := 6, ground := Ground.data } (by simp) rfl
          clear hdep ho
          have hl10 : ℓ 10 = false := by
            cases h7 : ℓ 10
            · rfl
            · have := (hr.c10 h7).2.2.2.2.1; rw [this] at hL; cases hL
          obtain rfl := hr.f6 g6
          have hwv := hr.v0 hl10
          have cc : w'.cell? ⟨T0, 18, none⟩ = some (.slice a.sa a.sn a.sc) := by rw [hwv]; exact (HXG.out _ hr.bV).cell 18 rfl
          clear hwv
          intro hK
          rw [if_pos (by rfl)]
          try simp only [Act.put, List.setIfInBounds_toArray, List.set_cons_zero, List.set_cons_succ]
          go_simp
          exact hK.out _ _ (fun j => if j = 7 then true else ℓ j) ⟨V, N1, N2, N3, x26, x27, x28, x29, x30, x31, .pointer (some ⟨T0, 18, none⟩), .slice a.sa a.sn a.sc, x34, x35, x36, x37, (by simp only [Act.put, List.setIfInBounds_toArray, List.set_cons_zero, List.set_cons_succ]), ⟨(fun g => ⟨(hr.c10 g).1, (hr.c10 g).2.1, (hr.c10 g).2.2.1, (hr.c10 g).2.2.2.1, rfl, (hr.c10 g).2.2.2.2.2⟩), hr.c5, hr.c8, hr.c12, hr.c14, hr.bV, hr.v0, hr.v1, hr.v2, hr.v3, hr.f0, hr.f1, hr.f2, hr.f3, hr.f4, hr.f5, hr.f6, (fun _ => rfl), hr.f8, hr.f9, hr.f11, hr.f13⟩⟩ (if_pos rfl) (fun j hj => if_neg hj)
        · revert hK
          obtain rfl := Option.some.inj ho
          have g7 : ℓ 7 = true := hdep { on := 7, ground := Ground.data } (by simp) rfl
          have g5 : ℓ 5 = true := hdep { on := 5, ground := Ground.chain } (by simp) rfl
          clear hdep ho
          have hl10 : ℓ 10 = false := by
            cases h7 : ℓ 10
            · rfl
            · have := (hr.c10 h7).2.2.2.2.2; rw [this] at hL; cases hL
          obtain rfl := hr.f7 g7
          obtain rfl := hr.v0 hl10
          have hbV := hr.bV
          intro hK
          rw [if_pos (by rfl)]
          try simp only [Act.put, List.setIfInBounds_toArray, List.set_cons_zero, List.set_cons_succ]
          go_simp
          refine Calls.mono (HCS.out _ hbV) ?_
          rintro e w9 ⟨rfl, hb9, hg9⟩
          have hb9' : Below wr.heap.size wr w9 := hbV.trans (hb9.mono hbV.size)
          exact hK.out _ _ (fun j => if j = 8 then true else ℓ j) ⟨w9, N1, N2, w'.heap.size, x26, x27, x28, x29, x30, x31, x32, .slice a.sa a.sn a.sc, .slice (some ⟨w'.heap.size, 0, none⟩) a.sn a.sn, x35, x36, x37, (by simp only [Act.put, List.setIfInBounds_toArray, List.set_cons_zero, List.set_cons_succ]), ⟨(fun g => ⟨(hr.c10 g).1, (hr.c10 g).2.1, (hr.c10 g).2.2.1, (hr.c10 g).2.2.2.1, (hr.c10 g).2.2.2.2.1, rfl⟩), hr.c5, (fun _ => g5), hr.c12, hr.c14, hb9', (fun _ => rfl), (fun g => absurd (hl10.symm.trans g) Bool.false_ne_true), (fun g => absurd (hl10.symm.trans (hr.c12 g)) Bool.false_ne_true), (fun g => absurd (hl10.symm.trans (hr.c12 (hr.c14 g))) Bool.false_ne_true), hr.f0, hr.f1, (fun g => ⟨(hr.f2 g).1, (hr.f2 g).2.1, (hr.f2 g).2.2.below hb9⟩), hr.f3, hr.f4, (fun g => ⟨(hr.f5 g).1, (hr.f5 g).2.1, (hr.f5 g).2.2.below hb9⟩), hr.f6, hr.f7, (fun _ => ⟨rfl, (hr.f5 g5).2.2.lt, hg9⟩), hr.f9, hr.f11, hr.f13⟩⟩ (if_pos rfl) (fun j hj => if_neg hj)
        · revert hK
          obtain rfl := Option.some.inj ho
          clear hdep ho
          intro hK
          rw [if_pos (by rfl)]
          try simp only [Act.put, List.setIfInBounds_toArray, List.set_cons_zero, List.set_cons_succ]
          go_simp
          exact hK.out _ _ (fun j => if j = 9 then true else ℓ j) ⟨V, N1, N2, N3, x26, x27, x28, x29, x30, x31, x32, x33, x34, .pointer (some ⟨T0, 16, none⟩), x36, x37, (by simp only [Act.put, List.setIfInBounds_toArray, List.set_cons_zero, List.set_cons_succ]), ⟨hr.c10, hr.c5, hr.c8, hr.c12, hr.c14, hr.bV, hr.v0, hr.v1, hr.v2, hr.v3, hr.f0, hr.f1, hr.f2, hr.f3, hr.f4, hr.f5, hr.f6, hr.f7, hr.f8, (fun _ => rfl), hr.f11, hr.f13⟩⟩ (if_pos rfl) (fun j hj => if_neg hj)
        · revert hK
          obtain rfl := Option.some.inj ho
          have g9 : ℓ 9 = true := hdep { on := 9, ground := Ground.data } (by simp) rfl
          have g2 : ℓ 2 = true := hdep { on := 2, ground := Ground.data } (by simp) rfl
          have g8 : ℓ 8 = true := hdep { on := 8, ground := Ground.chain } (by simp) rfl
          have g1 : ℓ 1 = true := hdep { on := 1, ground := Ground.phase } (by simp) rfl
          have g4 : ℓ 4 = true := hdep { on := 4, ground := Ground.phase } (by simp) rfl
          have g7 : ℓ 7 = true := hdep { on := 7, ground := Ground.phase } (by simp) rfl
          clear hdep ho
          have g5 : ℓ 5 = true := hr.c8 g8
          obtain rfl := hr.f9 g9
          obtain ⟨rfl, hN1, hg1⟩ := hr.f2 g2
          obtain rfl := hr.v0 hL
          have cc := (HTC.out _ hr.bV).1
          have cf := (HTC.out _ hr.bV).2.2.2
          intro hK
          rw [if_pos (by rfl)]
          try simp only [Act.put, List.setIfInBounds_toArray, List.set_cons_zero, List.set_cons_succ]
          go_simp
          exact hK.out _ _ (fun j => if j = 10 then true else ℓ j) ⟨w', N1, N2, N3, x26, x27, .slice (some ⟨N1, 0, none⟩) a.dn a.dn, x29, x30, x31, x32, x33, x34, .pointer (some ⟨T0, 16, none⟩), x36, x37, (by simp only [Act.put, List.setIfInBounds_toArray, List.set_cons_zero, List.set_cons_succ]), ⟨(fun _ => ⟨g1, g2, g4, g5, g7, g8⟩), hr.c5, hr.c8, (fun _ => rfl), hr.c14, hr.bV, (fun g => by cases g), (fun _ _ => rfl), (fun g => by have g2 : ℓ 12 = true := g; have := hr.c12 g2; rw [this] at hL; cases hL), (fun g => by have g2 : ℓ 14 = true := g; have := hr.c12 (hr.c14 g2); rw [this] at hL; cases hL), hr.f0, hr.f1, (fun g => ⟨rfl, hN1, hg1⟩), hr.f3, hr.f4, hr.f5, hr.f6, hr.f7, hr.f8, hr.f9, hr.f11, hr.f13⟩⟩ (if_pos rfl) (fun j hj => if_neg hj)
        · revert hK
          obtain rfl := Option.some.inj ho
          clear hdep ho
          intro hK
          rw [if_pos (by rfl)]
          try simp only [Act.put, List.setIfInBounds_toArray, List.set_cons_zero, List.set_cons_succ]
          go_simp
          exact hK.out _ _ (fun j => if j = 11 then true else ℓ j) ⟨V, N1, N2, N3, x26, x27, x28, x29, x30, x31, x32, x33, x34, x35, .pointer (some ⟨T0, 17, none⟩), x37, (by simp only [Act.put, List.setIfInBounds_toArray, List.set_cons_zero, List.set_cons_succ]), ⟨hr.c10, hr.c5, hr.c8, hr.c12, hr.c14, hr.bV, hr.v0, hr.v1, hr.v2, hr.v3, hr.f0, hr.f1, hr.f2, hr.f3, hr.f4, hr.f5, hr.f6, hr.f7, hr.f8, hr.f9, (fun _ => rfl), hr.f13⟩⟩ (if_pos rfl) (fun j hj => if_neg hj)
        · revert hK
          obtain rfl := Option.some.inj ho
          have g11 : ℓ 11 = true := hdep { on := 11, ground := Ground.data } (by simp) rfl
          have g5 : ℓ 5 = true := hdep { on := 5, ground := Ground.data } (by simp) rfl
          have g10 : ℓ 10 = true := hdep { on := 10, ground := Ground.chain } (by simp) rfl
          clear hdep ho
          obtain rfl := hr.f11 g11
          obtain ⟨rfl, hN2, hg2⟩ := hr.f5 g5
          obtain rfl := hr.v1 g10 hL
          have cc := (HTC.out _ hr.bV).2.1
          have cf := (HTC.out _ hr.bV).2.2.2
          have cc2 : (V.setCell ⟨T0, 16, none⟩ (.slice (some ⟨N1, 0, none⟩) a.dn a.dn)).cell? ⟨T0, 17, none⟩ = some (.slice a.ca a.cn a.cc) := by rw [World.cell?_setCell_other _ _ _ _ (by simp)]; exact cc
          intro hK
          rw [if_pos (by rfl)]
          try simp only [Act.put, List.setIfInBounds_toArray, List.set_cons_zero, List.set_cons_succ]
          go_simp
          exact hK.out _ _ (fun j => if j = 12 then true else ℓ j) ⟨V, N1, N2, N3, x26, x27, x28, x29, x30, .slice (some ⟨N2, 0, none⟩) a.cn a.cn, x32, x33, x34, x35, .pointer (some ⟨T0, 17, none⟩), x37, (by simp only [Act.put, List.setIfInBounds_toArray, List.set_cons_zero, List.set_cons_succ]), ⟨hr.c10, hr.c5, hr.c8, (fun _ => g10), (fun _ => rfl), hr.bV, (fun g => by have g2 : ℓ 10 = false := g; rw [g10] at g2; cases g2), (fun _ g => by cases g), (fun _ _ => rfl), (fun g => by have g2 : ℓ 14 = true := g; have := hr.c14 g2; rw [this] at hL; cases hL), hr.f0, hr.f1, hr.f2, hr.f3, hr.f4, (fun g => ⟨rfl, hN2, hg2⟩), hr.f6, hr.f7, hr.f8, hr.f9, hr.f11, hr.f13⟩⟩ (if_pos rfl) (fun j hj => if_neg hj)
        · revert hK
          obtain rfl := Option.some.inj ho
          clear hdep ho
          intro hK
          rw [if_pos (by rfl)]
          try simp only [Act.put, List.setIfInBounds_toArray, List.set_cons_zero, List.set_cons_succ]
          go_simp
          exact hK.out _ _ (fun j => if j = 13 then true else ℓ j) ⟨V, N1, N2, N3, x26, x27, x28, x29, x30, x31, x32, x33, x34, x35, x36, .pointer (some ⟨T0, 18, none⟩), (by simp only [Act.put, List.setIfInBounds_toArray, List.set_cons_zero, List.set_cons_succ]), ⟨hr.c10, hr.c5, hr.c8, hr.c12, hr.c14, hr.bV, hr.v0, hr.v1, hr.v2, hr.v3, hr.f0, hr.f1, hr.f2, hr.f3, hr.f4, hr.f5, hr.f6, hr.f7, hr.f8, hr.f9, hr.f11, (fun _ => rfl)⟩⟩ (if_pos rfl) (fun j hj => if_neg hj)
        · revert hK
          obtain rfl := Option.some.inj ho
          have g13 : ℓ 13 = true := hdep { on := 13, ground := Ground.data } (by simp) rfl
          have g8 : ℓ 8 = true := hdep { on := 8, ground := Ground.data } (by simp) rfl
          have g12 : ℓ 12 = true := hdep { on := 12, ground := Ground.chain } (by simp) rfl
          clear hdep ho
          have g10 : ℓ 10 = true := hr.c12 g12
          obtain rfl := hr.f13 g13
          obtain ⟨rfl, hN3, hg3⟩ := hr.f8 g8
          obtain rfl := hr.v2 g12 hL
          have cc := (HTC.out _ hr.bV).2.2.1
          have cf := (HTC.out _ hr.bV).2.2.2
          have cc2 : ((V.setCell ⟨T0, 16, none⟩ (.slice (some ⟨N1, 0, none⟩) a.dn a.dn)).setCell ⟨T0, 17, none⟩ (.slice (some ⟨N2, 0, none⟩) a.cn a.cn)).cell? ⟨T0, 18, none⟩ = some (.slice a.sa a.sn a.sc) := by rw [World.cell?_setCell_other _ _ _ _ (by simp), World.cell?_setCell_other _ _ _ _ (by simp)]; exact cc
          intro hK
          rw [if_pos (by rfl)]
          try simp only [Act.put, List.setIfInBounds_toArray, List.set_cons_zero, List.set_cons_succ]
          go_simp
          exact hK.out _ _ (fun j => if j = 14 then true else ℓ j) ⟨V, N1, N2, N3, x26, x27, x28, x29, x30, x31, x32, x33, .slice (some ⟨N3, 0, none⟩) a.sn a.sn, x35, x36, .pointer (some ⟨T0, 18, none⟩), (by simp only [Act.put, List.setIfInBounds_toArray, List.set_cons_zero, List.set_cons_succ]), ⟨hr.c10, hr.c5, hr.c8, hr.c12, (fun _ => g12), hr.bV, (fun g => by have g2 : ℓ 10 = false := g; rw [g10] at g2; cases g2), (fun _ g => by have g2 : ℓ 12 = false := g; rw [g12] at g2; cases g2), (fun _ g => by cases g), (fun _ => rfl), hr.f0, hr.f1, hr.f2, hr.f3, hr.f4, hr.f5, hr.f6, hr.f7, (fun g => ⟨rfl, hN3, hg3⟩), hr.f9, hr.f11, hr.f13⟩⟩ (if_pos rfl) (fun j hj => if_neg hj)
      · rintro a' w' ℓ ℓ' hℓ hI
        rw [← show ℓ = ℓ' from funext hℓ]
        exact hI
    have hlt' : (i : Int) < (n : Int) := by omega
    have HCW : Hid (∀ X, Below T0 w X → Calls Tryz.prog 68 #[.slice (a.Y i).wa (a.Y i).wn (a.Y i).wc] X fun e w' => e = .returned (.slice (some ⟨X.heap.size, 0, none⟩) (a.Y i).wn (a.Y i).wn) ∧ Below X.heap.size X w' ∧ GBlk 3 w' X.heap.size (a.Y i).wn (a.Y i).wn (wiX (t.ps.getD i pt0).ws)) := fun X hX => HCW0.out i (by rw [HN.out]; exact hlt) X (HBL.out X hX)
    have hrow := HGW.out.done i hlt
    simp only [rowsF, if_neg (Nat.lt_irrefl i)] at hrow
    have HFIN : Hid (∀ N V, T0 + 2 < N → GBlk 5 V (T0 + 2) n n (rowsF a.Y b i) → GBlk 5 (V.setCell ⟨T0 + 2, i * 5 + 4, none⟩ (.slice (some ⟨N, 0, none⟩) (a.Y i).wn (a.Y i).wn)) (T0 + 2) n n (rowsF a.Y (fun j => if j = i then N else b j) (i + 1))) := fun N V _ h => rows_set h hlt (fun j hj => if_neg (by omega)) (if_pos rfl)
    obtain ⟨ws, HWS⟩ : ∃ ws, Hid ((t.ps.getD i pt0).ws = ws) := ⟨_, rfl⟩
    obtain ⟨y, HY⟩ : ∃ y, Hid (a.Y i = y) := ⟨_, rfl⟩
    rw [HY.out] at HCW hrow HFIN
    rw [HWS.out] at HCW
    obtain ⟨nm, en, kd, ms, wa, wn, wc⟩ := y
    simp only at HCW HFIN
    obtain ⟨c0, c1, c2, c3, c4⟩ := rw_cells hrow
    simp only at c0 c1 c2 c3 c4
    have hbR : Below wr.heap.size wr (wr.alloc (.cells #[.string nm, .int .i64 en, .int .i64 kd, .int .i64 ms, .slice wa wn wc] 72)) := (Below.refl _ _).alloc (Nat.le_refl _) _
    have HNR : Hid (T0 + 2 < wr.heap.size) := HGW.out.lt
    have HBR : Hid (Below T0 w (wr.alloc (.cells #[.string nm, .int .i64 en, .int .i64 kd, .int .i64 ms, .slice wa wn wc] 72))) := HBW.out.trans (hbR.mono (by have := HNR.out; omega))
    have HXR : Hid (TBx (wr.alloc (.cells #[.string nm, .int .i64 en, .int .i64 kd, .int .i64 ms, .slice wa wn wc] 72)) T0 t a1) := HXW.out.below hbR
    have HRR : Hid ((wr.alloc (.cells #[.string nm, .int .i64 en, .int .i64 kd, .int .i64 ms, .slice wa wn wc] 72)).heap[T0 + 1]? = some (.cells #[.int .i64 0, .int .i64 0, .int .i64 0, .int .i64 0, .int .i64 0, .int .i64 0, .int .i64 0, .int .i64 0, .int .i64 0, .int .i64 0, .int .i64 0, .int .i64 0, .int .i64 0, .int .i64 0, .int .i64 0, .slice none 0 0, .slice none 0 0, .slice none 0 0, .slice none 0 0] 33 (0, 0))) := row_below HRW.out hbR
    have HGR : Hid (GBlk 5 (wr.alloc (.cells #[.string nm, .int .i64 en, .int .i64 kd, .int .i64 ms, .slice wa wn wc] 72)) (T0 + 2) n n (rowsF a.Y b i)) := HGW.out.below hbR
    have HWR : Hid (∀ j, j < i → T0 + 2 < b j ∧ b j < wr.heap.size ∧ GBlk 3 (wr.alloc (.cells #[.string nm, .int .i64 en, .int .i64 kd, .int .i64 ms, .slice wa wn wc] 72)) (b j) (a.Y j).wn (a.Y j).wn (wiX (t.ps.getD j pt0).ws)) := fun j hj => ⟨(HWW.out j hj).1, (HWW.out j hj).2.1, (HWW.out j hj).2.2.below hbR⟩
    have HRB0 : Hid ((wr.alloc (.cells #[.string nm, .int .i64 en, .int .i64 kd, .int .i64 ms, .slice wa wn wc] 72)).cell? ⟨wr.heap.size, 4, none⟩ = some (.slice wa wn wc)) := new_cell wr #[.string nm, .int .i64 en, .int .i64 kd, .int .i64 ms, .slice wa wn wc] 72 4 _ rfl
    have HSZ : Hid (wr.heap.size < (wr.alloc (.cells #[.string nm, .int .i64 en, .int .i64 kd, .int .i64 ms, .slice wa wn wc] 72)).heap.size) := by show _ < _; simp
    clear hbR hrow HBW HXW HRW HGW HWW
    go_wp2
    clear c0 c1 c2 c3 c4
    revert HBR HXR HRR HGR HWR HRB0 HSZ HNR
    generalize wr.alloc (.cells #[.string nm, .int .i64 en, .int .i64 kd, .int .i64 ms, .slice wa wn wc] 72) = WZ
    generalize wr.heap.size = RB
    intro HNR HBR HXR HRR HGR HWR HRB0 HSZ
    have HXG : Hid (∀ X, Below WZ.heap.size WZ X → TBx X T0 t ⟨some ⟨T0 + 2, 0, none⟩, n, n, a.da, a.dn, a.dc, a.ca, a.cn, a.cc, a.sa, a.sn, a.sc, a.Y⟩) := fun X hX => by
      have := HXR.out.below hX
      rw [HA1.out] at this
      exact this
    have HRB : Hid (∀ X, Below WZ.heap.size WZ X → X.cell? ⟨RB, 4, none⟩ = some (.slice wa wn wc)) := fun X hX => kept_cell hX HRB0.out
    have HPC : Hid (∀ X, Below WZ.heap.size WZ X → X.cell? ⟨T0 + 2, i * 5 + 4, none⟩ = some (.slice wa wn wc) ∧ X.frozen? ⟨T0 + 2, i * 5 + 4, none⟩ = false) := fun X hX => by
      have h1 := (HGR.out.below hX).done i hlt
      simp only [rowsF, if_neg (Nat.lt_irrefl i)] at h1
      have h2 := (rw_cells h1).2.2.2.2
      rw [HY.out] at h2
      exact ⟨h2, (HGR.out.below hX).free _⟩
    replace HCW : Hid (∀ X, Below WZ.heap.size WZ X → Calls Tryz.prog 68 #[.slice wa wn wc] X fun e w' => e = .returned (.slice (some ⟨X.heap.size, 0, none⟩) wn wn) ∧ Below X.heap.size X w' ∧ GBlk 3 w' X.heap.size wn wn (wiX ws)) := fun X hX => HCW.out X (HBR.out.trans (hX.mono (by have := HSZ.out; have := HNR.out; omega)))
    have HIN : (i : Int) < (n : Int) := hlt'
    refine wp_region_inv (by kernel_rfl) (by kernel_rfl) (fun A ℓ a' w' => ∃ (V : World) (N : Nat) (x17 x18 x19 x20 x21 x22 x23 x24 : Value), a' = ((((((((A.put (some 17) x17).put (some 18) x18).put (some 19) x19).put (some 20) x20).put (some 21) x21).put (some 22) x22).put (some 23) x23).put (some 24) x24) ∧ Rc5 WZ T0 (T0 + 2) n i wa wn wc RB ws w' V N (ℓ 0) (ℓ 1) (ℓ 2) (ℓ 3) (ℓ 4) (ℓ 5) (ℓ 6) (ℓ 7) (ℓ 8) x17 x18 x19 x20 x21 x22 x23 x24) ?_ ?_ ?_ ?_
    · exact ⟨WZ.drew, 0, u17, u18, u19, u20, u21, u22, u23, u24, (by simp only [Act.put, List.setIfInBounds_toArray, List.set_cons_zero, List.set_cons_succ]), ⟨(fun g => by cases g), (Below.refl _ _).drew, (fun _ => rfl), (fun g => by cases g), (fun g => by cases g), (fun g => by cases g), (fun g => by cases g), (fun g => by cases g), (fun g => by cases g), (fun g => by cases g), (fun g => by cases g), (fun g => by cases g)⟩⟩
    · intro ℓ a' w' hI hall
      obtain ⟨V, N, x17, x18, x19, x20, x21, x22, x23, x24, rfl, hr⟩ := hI
      have hall' : ∀ i, i < 9 → ℓ i = true := hall
      have hv := hr.v1 (hall' 8 (by decide))
      have hbV := hr.bV
      obtain ⟨rfl, hN, hgN⟩ := hr.f5 (hall' 5 (by decide))
      clear hr hall hall'
      have HNN : Hid (T0 + 2 < N) := by have := HSZ.out; have := HNR.out; show _ < _; omega
      have HB9 : Hid (Below T0 w w') := by
        show Below _ _ _
        rw [hv]
        exact (HBR.out.trans (hbV.mono (by have := HSZ.out; have := HNR.out; omega))).setCell (p := ⟨T0 + 2, i * 5 + 4, none⟩) (by show T0 ≤ T0 + 2; omega) _
      have HX9 : Hid (TBx w' T0 t a1) := by
        show TBx _ _ _ _
        rw [hv]
        exact (HXR.out.below hbV).set_other (by omega)
      have HR9 : Hid (w'.heap[T0 + 1]? = some (.cells #[.int .i64 0, .int .i64 0, .int .i64 0, .int .i64 0, .int .i64 0, .int .i64 0, .int .i64 0, .int .i64 0, .int .i64 0, .int .i64 0, .int .i64 0, .int .i64 0, .int .i64 0, .int .i64 0, .int .i64 0, .slice none 0 0, .slice none 0 0, .slice none 0 0, .slice none 0 0] 33 (0, 0))) := by
        show _ = _
        rw [hv, block_set_other _ _ _ _ _ (by omega)]
        exact row_below HRR.out hbV
      have HG9 : Hid (GBlk 5 w' (T0 + 2) n n (rowsF a.Y (fun j => if j = i then N else b j) (i + 1))) := by
        show GBlk _ _ _ _ _ _
        rw [hv]
        exact HFIN.out N V HNN.out (HGR.out.below hbV)
      have hsz : w'.heap.size = V.heap.size := by rw [hv]; simp
      have HW9 : Hid (∀ j, j < i + 1 → T0 + 2 < (if j = i then N else b j) ∧ (if j = i then N else b j) < w'.heap.size ∧ GBlk 3 w' (if j = i then N else b j) (a.Y j).wn (a.Y j).wn (wiX (t.ps.getD j pt0).ws)) := fun j hj => by
        rw [hsz, hv]
        by_cases e : j = i
        · subst e
          rw [if_pos rfl, HWS.out, HY.out]
          exact ⟨HNN.out, hgN.lt, hgN.other' (by have := HNN.out; omega)⟩
        · rw [if_neg e]
          have h := HWR.out j (by omega)
          exact ⟨h.1, Nat.lt_of_lt_of_le (Nat.lt_trans h.2.1 HSZ.out) hbV.size, (h.2.2.below hbV).other' (by have := h.1; omega)⟩
      have HO9 : Hid (∀ j k, j < k → k < i + 1 → (if j = i then N else b j) < (if k = i then N else b k)) := fun j k hjk hk => by
        rw [if_neg (show ¬ j = i by omega)]
        by_cases e : k = i
        · rw [if_pos e]
          have h := HWR.out j (by omega)
          have := HSZ.out
          omega
        · rw [if_neg e]
          exact HOW.out j k hjk (by omega)
      clear hv hbV hgN hsz hN HBR HXR HRR HGR HWR HRB0 HSZ HNR HXG HRB HPC HCW HFIN HNN HOW
      simp only [Act.put, List.setIfInBounds_toArray, List.set_cons_zero, List.set_cons_succ]
      go_wp2
      go_roundw
      case rel => exact ⟨i + 1, fun j => if j = i then N else b j, by omega, by first | rfl | go_num, HB9.out, HX9.out, HR9.out, HG9.out, HW9.out, HO9.out⟩
      case measure => simp [intOf]; omega
    · intro ℓ a' w' q o hI ho hi hL hdep K hK
      obtain ⟨V, N, x17, x18, x19, x20, x21, x22, x23, x24, rfl, hr⟩ := hI
      have hi7 : q < 9 := hi
      have hcs : q = 0 ∨ q = 1 ∨ q = 2 ∨ q = 3 ∨ q = 4 ∨ q = 5 ∨ q = 6 ∨ q = 7 ∨ q = 8 := by omega
      clear hi hi7
      rcases hcs with rfl | rfl | rfl | rfl | rfl | rfl | rfl | rfl | rfl
      · revert hK
        obtain rfl := Option.some.inj ho
        clear hdep ho
        have hl8 : ℓ 8 = false := by
          cases h7 : ℓ 8
          · rfl
          · have := (hr.c8 h7).1; rw [this] at hL; cases hL
        intro hK
        rw [if_pos (by rfl)]
        try simp only [Act.put, List.setIfInBounds_toArray, List.set_cons_zero, List.set_cons_succ]
        go_simp
        exact hK.out _ _ (fun j => if j = 0 then true else ℓ j) ⟨V, N, .pointer (some ⟨T0, 15, none⟩), x18, x19, x20, x21, x22, x23, x24, (by simp only [Act.put, List.setIfInBounds_toArray, List.set_cons_zero, List.set_cons_succ]), ⟨(fun g => ⟨rfl, (hr.c8 g).2.1, (hr.c8 g).2.2.1, (hr.c8 g).2.2.2.1, (hr.c8 g).2.2.2.2.1, (hr.c8 g).2.2.2.2.2.1, (hr.c8 g).2.2.2.2.2.2⟩), hr.bV, hr.v0, hr.v1, (fun _ => rfl), hr.f1, hr.f2, hr.f3, hr.f4, hr.f5, hr.f6, hr.f7⟩⟩ (if_pos rfl) (fun j hj => if_neg hj)
      · revert hK
        obtain rfl := Option.some.inj ho
        have g0 : ℓ 0 = true := hdep { on := 0, ground := Ground.data } (by simp) rfl
        clear hdep ho
        have hl8 : ℓ 8 = false := by
          cases h7 : ℓ 8
          · rfl
          · have := (hr.c8 h7).2.1; rw [this] at hL; cases hL
        obtain rfl := hr.f0 g0
        have hwv := hr.v0 hl8
        have cc : w'.cell? ⟨T0, 15, none⟩ = some (.slice (some ⟨T0 + 2, 0, none⟩) n n) := by rw [hwv]; exact (HXG.out _ hr.bV).cell 15 rfl
        clear hwv
        intro hK
        rw [if_pos (by rfl)]
        try simp only [Act.put, List.setIfInBounds_toArray, List.set_cons_zero, List.set_cons_succ]
        go_simp
        exact hK.out _ _ (fun j => if j = 1 then true else ℓ j) ⟨V, N, .pointer (some ⟨T0, 15, none⟩), .slice (some ⟨T0 + 2, 0, none⟩) n n, x19, x20, x21, x22, x23, x24, (by simp only [Act.put, List.setIfInBounds_toArray, List.set_cons_zero, List.set_cons_succ]), ⟨(fun g => ⟨(hr.c8 g).1, rfl, (hr.c8 g).2.2.1, (hr.c8 g).2.2.2.1, (hr.c8 g).2.2.2.2.1, (hr.c8 g).2.2.2.2.2.1, (hr.c8 g).2.2.2.2.2.2⟩), hr.bV, hr.v0, hr.v1, hr.f0, (fun _ => rfl), hr.f2, hr.f3, hr.f4, hr.f5, hr.f6, hr.f7⟩⟩ (if_pos rfl) (fun j hj => if_neg hj)
      · revert hK
        obtain rfl := Option.some.inj ho
        clear hdep ho
        have hl8 : ℓ 8 = false := by
          cases h7 : ℓ 8
          · rfl
          · have := (hr.c8 h7).2.2.1; rw [this] at hL; cases hL
        intro hK
        rw [if_pos (by rfl)]
        try simp only [Act.put, List.setIfInBounds_toArray, List.set_cons_zero, List.set_cons_succ]
        go_simp
        exact hK.out _ _ (fun j => if j = 2 then true else ℓ j) ⟨V, N, x17, x18, .int .i64 (i : Int), x20, x21, x22, x23, x24, (by simp only [Act.put, List.setIfInBounds_toArray, List.set_cons_zero, List.set_cons_succ]), ⟨(fun g => ⟨(hr.c8 g).1, (hr.c8 g).2.1, rfl, (hr.c8 g).2.2.2.1, (hr.c8 g).2.2.2.2.1, (hr.c8 g).2.2.2.2.2.1, (hr.c8 g).2.2.2.2.2.2⟩), hr.bV, hr.v0, hr.v1, hr.f0, hr.f1, (fun _ => rfl), hr.f3, hr.f4, hr.f5, hr.f6, hr.f7⟩⟩ (if_pos rfl) (fun j hj => if_neg hj)
      · revert hK
        obtain rfl := Option.some.inj ho
        clear hdep ho
        have hl8 : ℓ 8 = false := by
          cases h7 : ℓ 8
          · rfl
          · have := (hr.c8 h7).2.2.2.1; rw [this] at hL; cases hL
        intro hK
        rw [if_pos (by rfl)]
        try simp only [Act.put, List.setIfInBounds_toArray, List.set_cons_zero, List.set_cons_succ]
        go_simp
        exact hK.out _ _ (fun j => if j = 3 then true else ℓ j) ⟨V, N, x17, x18, x19, .pointer (some ⟨RB, 4, none⟩), x21, x22, x23, x24, (by simp only [Act.put, List.setIfInBounds_toArray, List.set_cons_zero, List.set_cons_succ]), ⟨(fun g => ⟨(hr.c8 g).1, (hr.c8 g).2.1, (hr.c8 g).2.2.1, rfl, (hr.c8 g).2.2.2.2.1, (hr.c8 g).2.2.2.2.2.1, (hr.c8 g).2.2.2.2.2.2⟩), hr.bV, hr.v0, hr.v1, hr.f0, hr.f1, hr.f2, (fun _ => rfl), hr.f4, hr.f5, hr.f6, hr.f7⟩⟩ (if_pos rfl) (fun j hj => if_neg hj)
      · revert hK
        obtain rfl := Option.some.inj ho
        have g3 : ℓ 3 = true := hdep { on := 3, ground := Ground.data } (by simp) rfl
        clear hdep ho
        have hl8 : ℓ 8 = false := by
          cases h7 : ℓ 8
          · rfl
          · have := (hr.c8 h7).2.2.2.2.1; rw [this] at hL; cases hL
        obtain rfl := hr.f3 g3
        have hwv := hr.v0 hl8
        have cc : w'.cell? ⟨RB, 4, none⟩ = some (.slice wa wn wc) := by rw [hwv]; exact HRB.out _ hr.bV
        clear hwv
        intro hK
        rw [if_pos (by rfl)]
        try simp only [Act.put, List.setIfInBounds_toArray, List.set_cons_zero, List.set_cons_succ]
        go_simp
        exact hK.out _ _ (fun j => if j = 4 then true else ℓ j) ⟨V, N, x17, x18, x19, .pointer (some ⟨RB, 4, none⟩), .slice wa wn wc, x22, x23, x24, (by simp only [Act.put, List.setIfInBounds_toArray, List.set_cons_zero, List.set_cons_succ]), ⟨(fun g => ⟨(hr.c8 g).1, (hr.c8 g).2.1, (hr.c8 g).2.2.1, (hr.c8 g).2.2.2.1, rfl, (hr.c8 g).2.2.2.2.2.1, (hr.c8 g).2.2.2.2.2.2⟩), hr.bV, hr.v0, hr.v1, hr.f0, hr.f1, hr.f2, hr.f3, (fun _ => rfl), hr.f5, hr.f6, hr.f7⟩⟩ (if_pos rfl) (fun j hj => if_neg hj)
      · revert hK
        obtain rfl := Option.some.inj ho
        have g4 : ℓ 4 = true := hdep { on := 4, ground := Ground.data } (by simp) rfl
        clear hdep ho
        have hl8 : ℓ 8 = false := by
          cases h7 : ℓ 8
          · rfl
          · have := (hr.c8 h7).2.2.2.2.2.1; rw [this] at hL; cases hL
        obtain rfl := hr.f4 g4
        obtain rfl := hr.v0 hl8
        have hbV := hr.bV
        intro hK
        rw [if_pos (by rfl)]
        try simp only [Act.put, List.setIfInBounds_toArray, List.set_cons_zero, List.set_cons_succ]
        go_simp
        refine Calls.mono (HCW.out _ hbV) ?_
        rintro e w9 ⟨rfl, hb9, hg9⟩
        have hb9' : Below WZ.heap.size WZ w9 := hbV.trans (hb9.mono hbV.size)
        exact hK.out _ _ (fun j => if j = 5 then true else ℓ j) ⟨w9, w'.heap.size, x17, x18, x19, x20, .slice wa wn wc, .slice (some ⟨w'.heap.size, 0, none⟩) wn wn, x23, x24, (by simp only [Act.put, List.setIfInBounds_toArray, List.set_cons_zero, List.set_cons_succ]), ⟨(fun g => ⟨(hr.c8 g).1, (hr.c8 g).2.1, (hr.c8 g).2.2.1, (hr.c8 g).2.2.2.1, (hr.c8 g).2.2.2.2.1, rfl, (hr.c8 g).2.2.2.2.2.2⟩), hb9', (fun _ => rfl), (fun g => absurd (hl8.symm.trans g) Bool.false_ne_true), hr.f0, hr.f1, hr.f2, hr.f3, hr.f4, (fun _ => ⟨rfl, hbV.size, hg9⟩), hr.f6, hr.f7⟩⟩ (if_pos rfl) (fun j hj => if_neg hj)
      · revert hK
        obtain rfl := Option.some.inj ho
        have g1 : ℓ 1 = true := hdep { on := 1, ground := Ground.data } (by simp) rfl
        have g2 : ℓ 2 = true := hdep { on := 2, ground := Ground.data } (by simp) rfl
        clear hdep ho
        obtain rfl := hr.f1 g1
        obtain rfl := hr.f2 g2
        intro hK
        rw [if_pos (by rfl)]
        try simp only [Act.put, List.setIfInBounds_toArray, List.set_cons_zero, List.set_cons_succ]
        go_simp
        exact hK.out _ _ (fun j => if j = 6 then true else ℓ j) ⟨V, N, x17, .slice (some ⟨T0 + 2, 0, none⟩) n n, .int .i64 (i : Int), x20, x21, x22, .pointer (some ⟨T0 + 2, i * 5, none⟩), x24, (by simp only [Act.put, List.setIfInBounds_toArray, List.set_cons_zero, List.set_cons_succ]), ⟨hr.c8, hr.bV, hr.v0, hr.v1, hr.f0, hr.f1, hr.f2, hr.f3, hr.f4, hr.f5, (fun _ => rfl), hr.f7⟩⟩ (if_pos rfl) (fun j hj => if_neg hj)
      · revert hK
        obtain rfl := Option.some.inj ho
        have g6 : ℓ 6 = true := hdep { on := 6, ground := Ground.data } (by simp) rfl
        clear hdep ho
        have hl8 : ℓ 8 = false := by
          cases h7 : ℓ 8
          · rfl
          · have := (hr.c8 h7).2.2.2.2.2.2; rw [this] at hL; cases hL
        obtain rfl := hr.f6 g6
        intro hK
        rw [if_pos (by rfl)]
        try simp only [Act.put, List.setIfInBounds_toArray, List.set_cons_zero, List.set_cons_succ]
        go_simp
        exact hK.out _ _ (fun j => if j = 7 then true else ℓ j) ⟨V, N, x17, x18, x19, x20, x21, x22, .pointer (some ⟨T0 + 2, i * 5, none⟩), .pointer (some ⟨T0 + 2, i * 5 + 4, none⟩), (by simp only [Act.put, List.setIfInBounds_toArray, List.set_cons_zero, List.set_cons_succ]), ⟨(fun g => ⟨(hr.c8 g).1, (hr.c8 g).2.1, (hr.c8 g).2.2.1, (hr.c8 g).2.2.2.1, (hr.c8 g).2.2.2.2.1, (hr.c8 g).2.2.2.2.2.1, rfl⟩), hr.bV, hr.v0, hr.v1, hr.f0, hr.f1, hr.f2, hr.f3, hr.f4, hr.f5, hr.f6, (fun _ => rfl)⟩⟩ (if_pos rfl) (fun j hj => if_neg hj)
      · revert hK
        obtain rfl := Option.some.inj ho
        have g0 : ℓ 0 = true := hdep { on := 0, ground := Ground.phase } (by simp) rfl
        have g1 : ℓ 1 = true := hdep { on := 1, ground := Ground.phase } (by simp) rfl
        have g2 : ℓ 2 = true := hdep { on := 2, ground := Ground.phase } (by simp) rfl
        have g3 : ℓ 3 = true := hdep { on := 3, ground := Ground.phase } (by simp) rfl
        have g4 : ℓ 4 = true := hdep { on := 4, ground := Ground.phase } (by simp) rfl
        have g5 : ℓ 5 = true := hdep { on := 5, ground := Ground.data } (by simp) rfl
        have g7 : ℓ 7 = true := hdep { on := 7, ground := Ground.data } (by simp) rfl
        clear hdep ho
        obtain rfl := hr.f7 g7
        obtain ⟨rfl, hN, hgN⟩ := hr.f5 g5
        obtain rfl := hr.v0 hL
        have cc := (HPC.out _ hr.bV).1
        have cf := (HPC.out _ hr.bV).2
        intro hK
        rw [if_pos (by rfl)]
        try simp only [Act.put, List.setIfInBounds_toArray, List.set_cons_zero, List.set_cons_succ]
        go_simp
        exact hK.out _ _ (fun j => if j = 8 then true else ℓ j) ⟨w', N, x17, x18, x19, x20, x21, .slice (some ⟨N, 0, none⟩) wn wn, x23, .pointer (some ⟨T0 + 2, i * 5 + 4, none⟩), (by simp only [Act.put, List.setIfInBounds_toArray, List.set_cons_zero, List.set_cons_succ]), ⟨(fun _ => ⟨g0, g1, g2, g3, g4, g5, g7⟩), hr.bV, (fun g => by cases g), (fun _ => rfl), hr.f0, hr.f1, hr.f2, hr.f3, hr.f4, (fun _ => ⟨rfl, hN, hgN⟩), hr.f6, hr.f7⟩⟩ (if_pos rfl) (fun j hj => if_neg hj)
    · rintro a' w' ℓ ℓ' hℓ hI
      rw [← show ℓ = ℓ' from funext hℓ]
      exact hI
end Go.Proofs.YtlomcdgfcocmmaaGreatDoor
namespace Go.Proofs.YtlomcdgfcocmmaaGreatDoor
open Go.ChangeShapes Go.WideShapes Go.ChangeAt Go.RowKit Go.Deep Go.Joins
set_option linter.unusedVariables false

theorem grown_refl (w : World) (row : Option Nat) : w.grownBy w row := ⟨rfl, rfl, rfl, Nat.le_refl _, fun _ _ _ => rfl⟩
theorem run_append_zero {P : Program} {w : World} (base : Nat) (t ty e : TypeId) (i : TypeInfo) (size : Nat) (ht : P.underlying t = some (.slice e)) (hi : P.info? e = some i)
    (v : Value) (n : Nat) (xs : List Value) (hown : w.ownsRow base e size v n xs) (sp : Option Addr) (c : Nat) :
    (Builtin.append_ #[t, t] ty #[v, .slice sp 0 c]).run P w = .ok v w := by
  have hl : ∀ (x : Addr), (loadCells x 0).run P w = .ok #[] w := fun x => by simpa using run_loadCells_list (P := P) w x [] (by simp)
  rcases hown.2 with ⟨rfl, rfl⟩ | ⟨g, cap, cur, rfl, _, _, hnc, _⟩
  · cases sp <;> simp [Builtin.append_, run_underlying ht, sizeOf, typeInfo, hi, Builtin.lenOf, Builtin.firstCells, hl]
  · cases sp <;> simp [Builtin.append_, run_underlying ht, sizeOf, typeInfo, hi, Builtin.lenOf, Builtin.firstCells, hnc, storeCells, hl]
theorem wpList_append_any {P : Program} {w : World} {ops : Array Oper} {rest : List Oper} {o : Oper} {a : Act} {Q : Exit → Act → World → Prop} (hgd : o.guard = none) (s x : Operand) (t : TypeId)
    (ho : o.op = .call { callee := .builtin .append, args := #[s, x], argTypes := #[t, t] })
    (base : Nat) (e : TypeId) (i : TypeInfo) (z : Value) (size bytes : Nat) (ht : P.underlying t = some (.slice e)) (hi : P.info? e = some i) (hz : i.zero = some z)
    (hsize : i.size = size) (hby : i.bytes = bytes) (hzs : z.cells.size = size) (hsz : 0 < size)
    (v : Value) (n : Nat) (xs : List Value) (hs : a.eval s = v) (hown : w.ownsRow base e size v n xs)
    (sp : Option Addr) (m c : Nat) (news : List Value) (hx : a.eval x = .slice sp m c) (hl : news.length = m * size) (hnews : 0 < m → ∃ ad, sp = some ad ∧ ∀ j u, news[j]? = some u → w.cell? (ad.add j) = some u) (h1 : ∀ u ∈ news, u.oneCell' = true)
    (h63 : n + m ≤ maxLen) (hbytes : (n + m) * bytes ≤ 140737488355328) (hbase : base ≤ w.heap.size)
    (h : ∀ v' w', w'.ownsRow base e size v' (n + m) (xs ++ news) → w.grownBy w' v.ownBlock → (∀ k, v'.ownBlock = some k → v.ownBlock = some k ∨ k = w.heap.size) → wpList P ops Q rest (a.put o.dst v') w') : wpList P ops Q (o :: rest) a w := by
  by_cases h0 : m = 0
  · subst h0
    rw [Nat.zero_mul] at hl
    obtain rfl : news = [] := List.eq_nil_of_length_eq_zero hl
    refine wpList_plain hgd fun K hK => ?_
    have hrun := run_append_zero (P := P) (w := w) base t o.type e i size ht hi v n xs hown sp c
    unfold Oper.wp
    simp [execOp, ho, resolve, invoke, builtin, hs, hx, hrun, Result.andThen]
    exact hK _ _ (h v w (by simpa using hown) (grown_refl _ _) (fun k hk => Or.inl hk))
  · obtain ⟨ad, rfl, hn⟩ := hnews (by omega)
    refine wpList_append_lies w hgd s x t ho base e i z size bytes ht hi hz hsize hby hzs hsz v n xs hs hown ad m c news hx hl hn h1 (by omega) h63 hbytes hbase w.heap.size rfl fun g cap w' h2 h3 h4 _ => ?_
    refine h _ w' h2 h3 fun k hk => ?_
    simp [Value.ownBlock] at hk
    subst hk
    exact h4
theorem own_lit0 (w : World) (T : TypeId) (k : Nat) : (w.alloc (.cells #[] T)).ownsRow w.heap.size T k (.slice (some ⟨w.heap.size, 0, none⟩) 0 0) 0 [] :=
  ⟨by simp, .inr ⟨w.heap.size, 0, #[], rfl, Nat.le_refl _, by show (w.heap.push _)[w.heap.size]? = _; simp, Nat.le_refl _, Nat.zero_le _, by simp, by simp⟩⟩
theorem own_ge {w : World} {base : Nat} {e : TypeId} {size n : Nat} {v : Value} {xs : List Value} (h : w.ownsRow base e size v n xs) : ∀ k, v.ownBlock = some k → base ≤ k ∧ k < w.heap.size := by
  intro k hk
  rcases h.2 with ⟨h0, h1⟩ | ⟨g, cap, cur, rfl, hb, hg, _⟩
  · rw [h0] at hk; cases hk
  · simp [Value.ownBlock] at hk
    subst hk
    exact ⟨hb, (Array.getElem?_eq_some_iff.1 hg).1⟩
theorem own_far {w w' : World} {base : Nat} {e : TypeId} {size n : Nat} {v : Value} {xs : List Value} (h : w.ownsRow base e size v n xs) (hb : ∀ k, v.ownBlock = some k → w'.heap[k]? = w.heap[k]?) : w'.ownsRow base e size v n xs := by
  refine ⟨h.1, ?_⟩
  rcases h.2 with h0 | ⟨g, cap, cur, rfl, h1, hg, r⟩
  · exact .inl h0
  · exact .inr ⟨g, cap, cur, rfl, h1, (hb g rfl).trans hg, r⟩
/-- A list within blocks of [lo, hi), which may be written. -/
def LS (k lo hi : Nat) (w : World) (a : Option Addr) (n : Nat) (X : Nat → List Value) : Prop := GSeg k w a n X ∧ WR k lo hi w a n
theorem LS.far {k lo hi n : Nat} {w w' : World} {a : Option Addr} {X : Nat → List Value} (h : LS k lo hi w a n X) (hz : w.heap.size ≤ w'.heap.size) (hb : ∀ b o, a = some ⟨b, o, none⟩ → lo ≤ b → b < hi → w'.heap[b]? = w.heap[b]?) : LS k lo hi w' a n X := by
  refine ⟨fun h0 => ?_, fun h0 => ?_⟩
  · obtain ⟨b, off, e, g1, g2⟩ := h.1 h0
    obtain ⟨b', off', e', r1, r2, _⟩ := h.2 h0
    have e2 := e.symm.trans e'
    cases e2
    have hbl := hb b off e r1 r2
    exact ⟨b, off, e, Nat.lt_of_lt_of_le g1 hz, fun i hi => (g2 i hi).of (fun j => World.cell?_of_block (a := ⟨b, j, none⟩) hbl)⟩
  · obtain ⟨b, off, e, r1, r2, r3, r4, r5⟩ := h.2 h0
    have hbl := hb b off e r1 r2
    exact ⟨b, off, e, r1, r2, Nat.lt_of_lt_of_le r3 hz, fun i j hi hj => by
      obtain ⟨u, hu⟩ := r4 i j hi hj
      exact ⟨u, (World.cell?_of_block (a := ⟨b, off + i * k + j, none⟩) hbl).trans hu⟩, fun j => (World.frozen?_of_block (a := ⟨b, j, none⟩) hbl).trans (r5 j)⟩
theorem LS.low {k lo hi n B : Nat} {w w' : World} {a : Option Addr} {X : Nat → List Value} (h : LS k lo hi w a n X) (hb : Below B w w') (hB : hi ≤ B) : LS k lo hi w' a n X := h.far hb.size fun b _ _ _ h2 => hb.block b (by omega)
theorem LS.set {k lo hi n B o : Nat} {w : World} {v : Value} {a : Option Addr} {X : Nat → List Value} (h : LS k lo hi w a n X) (hB : B < lo ∨ hi ≤ B) : LS k lo hi (w.setCell ⟨B, o, none⟩ v) a n X := h.far (by simp) fun b _ _ h1 h2 => block_set_other _ _ _ _ _ (by omega)
theorem LS.setRow {k lo hi n B : Nat} {w : World} {cs : Array Value} {a : Option Addr} {X : Nat → List Value} (h : LS k lo hi w a n X) (hB : B < lo ∨ hi ≤ B) : LS k lo hi (w.setRow B cs) a n X := h.far (by simp [World.setRow]) fun b _ _ h1 h2 => by simp [World.setRow, Array.getElem?_modify]; omega
theorem LS.wide {k lo hi lo' hi' n : Nat} {w : World} {a : Option Addr} {X : Nat → List Value} (h : LS k lo hi w a n X) (h1 : lo' ≤ lo) (h2 : hi ≤ hi') : LS k lo' hi' w a n X := ⟨h.1, fun hn => by
  obtain ⟨b, off, e, r1, r2, r3⟩ := h.2 hn
  exact ⟨b, off, e, by omega, by omega, r3⟩⟩
theorem LS.mk' {k lo hi l1 h1 n : Nat} {w w' : World} {a : Option Addr} {X : Nat → List Value} (h : LS k lo hi w a n X) (g : Mk l1 h1 w w') (hd : hi ≤ l1 ∨ h1 ≤ lo) : LS k lo hi w' a n X := by
  refine ⟨fun h0 => ?_, h.2.mk g⟩
  obtain ⟨b, off, e, g1, g2⟩ := h.1 h0
  obtain ⟨b', off', e', r1, r2, _⟩ := h.2 h0
  have e2 := e.symm.trans e'
  cases e2
  have hbl := g.b.block b g1 (by omega)
  exact ⟨b, off, e, Nat.lt_of_lt_of_le g1 g.b.size, fun i hi => (g2 i hi).of (fun j => World.cell?_of_block (a := ⟨b, j, none⟩) hbl)⟩
/-- Tables that read as t, whose lists lie in blocks of [lo, hi). -/
structure KT (lo hi : Nat) (w : World) (t : Tb) (a : Ad) : Prop where
  p : LS 5 lo hi w a.pa a.pn (fun i => rwL (a.Y i))
  g : ∀ i, i < a.pn → (a.Y i).nm = (t.ps.getD i pt0).nm ∧ (a.Y i).en = (t.ps.getD i pt0).en ∧ (a.Y i).kd = (t.ps.getD i pt0).kd ∧ (a.Y i).ms = (t.ps.getD i pt0).ms ∧ (t.ps.getD i pt0).ws.length = (a.Y i).wn ∧ (a.Y i).wn ≤ (a.Y i).wc
  v : ∀ i, i < a.pn → LS 3 lo hi w (a.Y i).wa (a.Y i).wn (wiX (t.ps.getD i pt0).ws)
  d : LS 1 lo hi w a.da a.dn (inX t.ds)
  c : LS 4 lo hi w a.ca a.cn (chX t.cs)
  s : LS 3 lo hi w a.sa a.sn (slX t.ss)
theorem KT.tm {lo hi : Nat} {w : World} {t : Tb} {a : Ad} (h : KT lo hi w t a) : TM 0 w t a :=
  ⟨⟨h.p.1.low, fun i hi => ⟨(h.g i hi).1, (h.g i hi).2.1, (h.g i hi).2.2.1, (h.g i hi).2.2.2.1, (h.g i hi).2.2.2.2.1, (h.g i hi).2.2.2.2.2, (h.v i hi).1.low⟩, fun g => absurd g (Nat.lt_irrefl 0)⟩, h.d.1.low, h.c.1.low, h.s.1.low⟩
theorem KT.mk' {lo hi l1 h1 : Nat} {w w' : World} {t : Tb} {a : Ad} (h : KT lo hi w t a) (g : Mk l1 h1 w w') (hd : hi ≤ l1 ∨ h1 ≤ lo) : KT lo hi w' t a :=
  ⟨h.p.mk' g hd, h.g, fun i hi => (h.v i hi).mk' g hd, h.d.mk' g hd, h.c.mk' g hd, h.s.mk' g hd⟩
theorem KT.low {lo hi B : Nat} {w w' : World} {t : Tb} {a : Ad} (h : KT lo hi w t a) (g : Below B w w') (hd : hi ≤ B) : KT lo hi w' t a :=
  ⟨h.p.low g hd, h.g, fun i hi => (h.v i hi).low g hd, h.d.low g hd, h.c.low g hd, h.s.low g hd⟩
theorem KT.setRow {lo hi B : Nat} {w : World} {t : Tb} {a : Ad} {cs : Array Value} (h : KT lo hi w t a) (hd : B < lo ∨ hi ≤ B) : KT lo hi (w.setRow B cs) t a :=
  ⟨h.p.setRow hd, h.g, fun i hi => (h.v i hi).setRow hd, h.d.setRow hd, h.c.setRow hd, h.s.setRow hd⟩
theorem own_ls {T : TypeId} {k base n : Nat} {w : World} {v : Value} {X : Nat → List Value} (hl : ∀ i, i < n → (X i).length = k) (h : w.ownsRow base T k v n (gcat X n)) : ∃ A cap, v = .slice A n cap ∧ n ≤ cap ∧ LS k base w.heap.size w A n X := by
  obtain ⟨A, cap, e, h1, h2, h3⟩ := own_gen hl h
  exact ⟨A, cap, e, h1, h2, h3⟩
/-- What an append onto a fresh list leaves. -/
theorem newsP_of {k n : Nat} {w : World} {a : Option Addr} {X : Nat → List Value} (hk : 0 < k) (hX : ∀ i, (X i).length = k) (h : GSeg k w a n X) : 0 < n → ∃ ad, a = some ad ∧ ∀ j u, (gcat X n)[j]? = some u → w.cell? (ad.add j) = some u := fun h0 => by
  obtain ⟨b, off, e, hlt, hc⟩ := h h0
  exact ⟨_, e, gcat_src hk (fun i _ => hX i) hc⟩
end Go.Proofs.YtlomcdgfcocmmaaGreatDoor
