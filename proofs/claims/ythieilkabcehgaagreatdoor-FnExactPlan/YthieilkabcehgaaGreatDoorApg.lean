
/-
  A list appended to rows that a call owns, be it empty or not; lists within a range of blocks, and what keeps them. Conditions: those that each fact names.
-/
import Derived.Test.YthieilkabcehgaaGreatDoorBas
import Derived.Test.YthieilkabcehgaaGreatDoorCps
namespace Go.Proofs.YthieilkabcehgaaGreatDoor
open Go.ChangeShapes Go.WideShapes Go.ChangeAt Go.RowKit Go.Deep Go.Joins
set_option linter.unusedVariables false

theorem grown_refl (w : World) (row : Option Nat) : w.grownBy w row := ⟨rfl, rfl, rfl, Nat.le_refl _, fun _ _ _ => rfl⟩
theorem run_append_zero {P : Program} {w : World} (base : Nat) (t ty e : TypeId) (i : TypeInfo) (size : Nat) (ht : P.underlying t = some (.slice e)) (hi : P.info? e = some i)
    (v : Value) (n : Nat) (xs : List Value) (hown : w.ownsRow base e size v n xs) (sp : Option Addr) (c : Nat) :
    (Builtin.append_ #[t, t] ty #[v, .slice sp 0 c]).run P w = .ok v w := by
  have hl : ∀ (x : Addr), (loadCells x 0).run P w = .ok #[] w := fun x => by simpa using run_loadCells_list (P := P) w x [] (by simp)
  rcases hown.2 with ⟨rfl, rfl⟩ | ⟨g, cap, cur, rfl, _, _, hnc, _⟩
  · cases sp <;> simp [Builtin.append_, run_underlying ht, sizeOf, typeInfo, hi, Builtin.lenOf, Builtin.firstCells, hl]
  · cases sp <;> simp [Builtin.append_, run_underlying ht, sizeOf, typeInfo, hi, Builtin.lenOf, Builtin.firstCells, hnc, storeCells, hl]
theorem wpList_append_any {P : Program} {w : World} {ops : Array Oper} {rest : List Oper} {o : Oper} {a : Act} {Q : Exit → Act → World → Prop} (hgd : o.guard = none) (s x : Operand) (t : TypeId)
    (ho : o.op = .call { callee := .builtin .append, args := #[s, x], argTypes := #[t, t] })
    (base : Nat) (e : TypeId) (i : TypeInfo) (z : Value) (size bytes : Nat) (ht : P.underlying t = some (.slice e)) (hi : P.info? e = some i) (hz : i.zero = some z)
    (hsize : i.size = size) (hby : i.bytes = bytes) (hzs : z.cells.size = size) (hsz : 0 < size)
    (v : Value) (n : Nat) (xs : List Value) (hs : a.eval s = v) (hown : w.ownsRow base e size v n xs)
    (sp : Option Addr) (m c : Nat) (news : List Value) (hx : a.eval x = .slice sp m c) (hl : news.length = m * size) (hnews : 0 < m → ∃ ad, sp = some ad ∧ ∀ j u, news[j]? = some u → w.cell? (ad.add j) = some u) (h1 : ∀ u ∈ news, u.oneCell' = true)
    (h63 : n + m ≤ maxLen) (hbytes : (n + m) * bytes ≤ 140737488355328) (hbase : base ≤ w.heap.size)
    (h : ∀ v' w', w'.ownsRow base e size v' (n + m) (xs ++ news) → w.grownBy w' v.ownBlock → (∀ k, v'.ownBlock = some k → v.ownBlock = some k ∨ k = w.heap.size) → wpList P ops Q rest (a.put o.dst v') w') : wpList P ops Q (o :: rest) a w := by
  by_cases h0 : m = 0
  · subst h0
    rw [Nat.zero_mul] at hl
    obtain rfl : news = [] := List.eq_nil_of_length_eq_zero hl
    refine wpList_plain hgd fun K hK => ?_
    have hrun := run_append_zero (P := P) (w := w) base t o.type e i size ht hi v n xs hown sp c
    unfold Oper.wp
    simp [execOp, ho, resolve, invoke, builtin, hs, hx, hrun, Result.andThen]
    exact hK _ _ (h v w (by simpa using hown) (grown_refl _ _) (fun k hk => Or.inl hk))
  · obtain ⟨ad, rfl, hn⟩ := hnews (by omega)
    refine wpList_append_lies w hgd s x t ho base e i z size bytes ht hi hz hsize hby hzs hsz v n xs hs hown ad m c news hx hl hn h1 (by omega) h63 hbytes hbase w.heap.size rfl fun g cap w' h2 h3 h4 _ => ?_
    refine h _ w' h2 h3 fun k hk => ?_
    simp [Value.ownBlock] at hk
    subst hk
    exact h4
theorem own_lit0 (w : World) (T : TypeId) (k : Nat) : (w.alloc (.cells #[] T)).ownsRow w.heap.size T k (.slice (some ⟨w.heap.size, 0, none⟩) 0 0) 0 [] :=
  ⟨by simp, .inr ⟨w.heap.size, 0, #[], rfl, Nat.le_refl _, by show (w.heap.push _)[w.heap.size]? = _; simp, Nat.le_refl _, Nat.zero_le _, by simp, by simp⟩⟩
theorem own_ge {w : World} {base : Nat} {e : TypeId} {size n : Nat} {v : Value} {xs : List Value} (h : w.ownsRow base e size v n xs) : ∀ k, v.ownBlock = some k → base ≤ k ∧ k < w.heap.size := by
  intro k hk
  rcases h.2 with ⟨h0, h1⟩ | ⟨g, cap, cur, rfl, hb, hg, _⟩
  · rw [h0] at hk; cases hk
  · simp [Value.ownBlock] at hk
    subst hk
    exact ⟨hb, (Array.getElem?_eq_some_iff.1 hg).1⟩
theorem own_far {w w' : World} {base : Nat} {e : TypeId} {size n : Nat} {v : Value} {xs : List Value} (h : w.ownsRow base e size v n xs) (hb : ∀ k, v.ownBlock = some k → w'.heap[k]? = w.heap[k]?) : w'.ownsRow base e size v n xs := by
  refine ⟨h.1, ?_⟩
  rcases h.2 with h0 | ⟨g, cap, cur, rfl, h1, hg, r⟩
  · exact .inl h0
  · exact .inr ⟨g, cap, cur, rfl, h1, (hb g rfl).trans hg, r⟩
/-- A list within blocks of [lo, hi), which may be written. -/
def LS (k lo hi : Nat) (w : World) (a : Option Addr) (n : Nat) (X : Nat → List Value) : Prop := GSeg k w a n X ∧ WR k lo hi w a n
theorem LS.far {k lo hi n : Nat} {w w' : World} {a : Option Addr} {X : Nat → List Value} (h : LS k lo hi w a n X) (hz : w.heap.size ≤ w'.heap.size) (hb : ∀ b o, a = some ⟨b, o, none⟩ → lo ≤ b → b < hi → w'.heap[b]? = w.heap[b]?) : LS k lo hi w' a n X := by
  refine ⟨fun h0 => ?_, fun h0 => ?_⟩
  · obtain ⟨b, off, e, g1, g2⟩ := h.1 h0
    obtain ⟨b', off', e', r1, r2, _⟩ := h.2 h0
    have e2 := e.symm.trans e'
    cases e2
    have hbl := hb b off e r1 r2
    exact ⟨b, off, e, Nat.lt_of_lt_of_le g1 hz, fun i hi => (g2 i hi).of (fun j => World.cell?_of_block (a := ⟨b, j, none⟩) hbl)⟩
  · obtain ⟨b, off, e, r1, r2, r3, r4, r5⟩ := h.2 h0
    have hbl := hb b off e r1 r2
    exact ⟨b, off, e, r1, r2, Nat.lt_of_lt_of_le r3 hz, fun i j hi hj => by
      obtain ⟨u, hu⟩ := r4 i j hi hj
      exact ⟨u, (World.cell?_of_block (a := ⟨b, off + i * k + j, none⟩) hbl).trans hu⟩, fun j => (World.frozen?_of_block (a := ⟨b, j, none⟩) hbl).trans (r5 j)⟩
theorem LS.low {k lo hi n B : Nat} {w w' : World} {a : Option Addr} {X : Nat → List Value} (h : LS k lo hi w a n X) (hb : Below B w w') (hB : hi ≤ B) : LS k lo hi w' a n X := h.far hb.size fun b _ _ _ h2 => hb.block b (by omega)
theorem LS.set {k lo hi n B o : Nat} {w : World} {v : Value} {a : Option Addr} {X : Nat → List Value} (h : LS k lo hi w a n X) (hB : B < lo ∨ hi ≤ B) : LS k lo hi (w.setCell ⟨B, o, none⟩ v) a n X := h.far (by simp) fun b _ _ h1 h2 => block_set_other _ _ _ _ _ (by omega)
theorem LS.setRow {k lo hi n B : Nat} {w : World} {cs : Array Value} {a : Option Addr} {X : Nat → List Value} (h : LS k lo hi w a n X) (hB : B < lo ∨ hi ≤ B) : LS k lo hi (w.setRow B cs) a n X := h.far (by simp [World.setRow]) fun b _ _ h1 h2 => by simp [World.setRow, Array.getElem?_modify]; omega
theorem LS.wide {k lo hi lo' hi' n : Nat} {w : World} {a : Option Addr} {X : Nat → List Value} (h : LS k lo hi w a n X) (h1 : lo' ≤ lo) (h2 : hi ≤ hi') : LS k lo' hi' w a n X := ⟨h.1, fun hn => by
  obtain ⟨b, off, e, r1, r2, r3⟩ := h.2 hn
  exact ⟨b, off, e, by omega, by omega, r3⟩⟩
theorem LS.mk' {k lo hi l1 h1 n : Nat} {w w' : World} {a : Option Addr} {X : Nat → List Value} (h : LS k lo hi w a n X) (g : Mk l1 h1 w w') (hd : hi ≤ l1 ∨ h1 ≤ lo) : LS k lo hi w' a n X := by
  refine ⟨fun h0 => ?_, h.2.mk g⟩
  obtain ⟨b, off, e, g1, g2⟩ := h.1 h0
  obtain ⟨b', off', e', r1, r2, _⟩ := h.2 h0
  have e2 := e.symm.trans e'
  cases e2
  have hbl := g.b.block b g1 (by omega)
  exact ⟨b, off, e, Nat.lt_of_lt_of_le g1 g.b.size, fun i hi => (g2 i hi).of (fun j => World.cell?_of_block (a := ⟨b, j, none⟩) hbl)⟩
/-- Tables that read as t, whose lists lie in blocks of [lo, hi). -/
structure KT (lo hi : Nat) (w : World) (t : Tb) (a : Ad) : Prop where
  p : LS 5 lo hi w a.pa a.pn (fun i => rwL (a.Y i))
  g : ∀ i, i < a.pn → (a.Y i).nm = (t.ps.getD i pt0).nm ∧ (a.Y i).en = (t.ps.getD i pt0).en ∧ (a.Y i).kd = (t.ps.getD i pt0).kd ∧ (a.Y i).ms = (t.ps.getD i pt0).ms ∧ (t.ps.getD i pt0).ws.length = (a.Y i).wn ∧ (a.Y i).wn ≤ (a.Y i).wc
  v : ∀ i, i < a.pn → LS 3 lo hi w (a.Y i).wa (a.Y i).wn (wiX (t.ps.getD i pt0).ws)
  d : LS 1 lo hi w a.da a.dn (inX t.ds)
  c : LS 4 lo hi w a.ca a.cn (chX t.cs)
  s : LS 3 lo hi w a.sa a.sn (slX t.ss)
theorem KT.tm {lo hi : Nat} {w : World} {t : Tb} {a : Ad} (h : KT lo hi w t a) : TM 0 w t a :=
  ⟨⟨h.p.1.low, fun i hi => ⟨(h.g i hi).1, (h.g i hi).2.1, (h.g i hi).2.2.1, (h.g i hi).2.2.2.1, (h.g i hi).2.2.2.2.1, (h.g i hi).2.2.2.2.2, (h.v i hi).1.low⟩, fun g => absurd g (Nat.lt_irrefl 0)⟩, h.d.1.low, h.c.1.low, h.s.1.low⟩
theorem KT.mk' {lo hi l1 h1 : Nat} {w w' : World} {t : Tb} {a : Ad} (h : KT lo hi w t a) (g : Mk l1 h1 w w') (hd : hi ≤ l1 ∨ h1 ≤ lo) : KT lo hi w' t a :=
  ⟨h.p.mk' g hd, h.g, fun i hi => (h.v i hi).mk' g hd, h.d.mk' g hd, h.c.mk' g hd, h.s.mk' g hd⟩
theorem KT.low {lo hi B : Nat} {w w' : World} {t : Tb} {a : Ad} (h : KT lo hi w t a) (g : Below B w w') (hd : hi ≤ B) : KT lo hi w' t a :=
  ⟨h.p.low g hd, h.g, fun i hi => (h.v i hi).low g hd, h.d.low g hd, h.c.low g hd, h.s.low g hd⟩
theorem KT.setRow {lo hi B : Nat} {w : World} {t : Tb} {a : Ad} {cs : Array Value} (h : KT lo hi w t a) (hd : B < lo ∨ hi ≤ B) : KT lo hi (w.setRow B cs) t a :=
  ⟨h.p.setRow hd, h.g, fun i hi => (h.v i hi).setRow hd, h.d.setRow hd, h.c.setRow hd, h.s.setRow hd⟩
theorem own_ls {T : TypeId} {k base n : Nat} {w : World} {v : Value} {X : Nat → List Value} (hl : ∀ i, i < n → (X i).length = k) (h : w.ownsRow base T k v n (gcat X n)) : ∃ A cap, v = .slice A n cap ∧ n ≤ cap ∧ LS k base w.heap.size w A n X := by
  obtain ⟨A, cap, e, h1, h2, h3⟩ := own_gen hl h
  exact ⟨A, cap, e, h1, h2, h3⟩
/-- What an append onto a fresh list leaves. -/
theorem news_of {k n : Nat} {w : World} {a : Option Addr} {X : Nat → List Value} (hk : 0 < k) (hX : ∀ i, (X i).length = k) (h : GSeg k w a n X) : 0 < n → ∃ ad, a = some ad ∧ ∀ j u, (gcat X n)[j]? = some u → w.cell? (ad.add j) = some u := fun h0 => by
  obtain ⟨b, off, e, hlt, hc⟩ := h h0
  exact ⟨_, e, gcat_src hk (fun i _ => hX i) hc⟩
end Go.Proofs.YthieilkabcehgaaGreatDoor
