
/-
  The program's copies of the lists of tables: each in a block of its own. Conditions: at most 1048576 elements.
-/
import Derived.Test.YthieilkabcehgaaGreatDoorBas
import Derived.Test.YthieilkabcehgaaGreatDoorHpt
import Derived.Laws.CopyOwn
import Derived.OwnWalk
import Derived.Deep.AppendLies
namespace Go.Proofs.YthieilkabcehgaaGreatDoor
open Go.ChangeShapes Go.WideShapes Go.ChangeAt Go.RowKit Go.Deep Go.Joins
set_option linter.unusedVariables false

theorem run_copy_all {P : Program} (w : World) (dT sT ty elem : TypeId) (g n dCap : Nat) (ad : Addr) (sCap k : Nat) (cur : Array Value) (t : TypeId) (cs : List Value)
    (hu : P.underlying dT = some (.slice elem)) (hs : (P.info? elem).map (·.size) = some k)
    (hg : w.heap[g]? = some (.cells cur t (0, 0))) (hn : cs.length = n * k)
    (hsrc : ∀ j v, cs[j]? = some v → w.cell? (ad.add j) = some v) (hfit : cs.length = cur.size) (h1 : ∀ v ∈ cs, v.oneCell' = true) :
    (Builtin.copy_ #[dT, sT] ty #[.slice (some ⟨g, 0, none⟩) n dCap, .slice (some ad) n sCap]).run P w = .ok (goInt n) (w.setRow g cs.toArray) := by
  have hl := run_loadCells_list (P := P) w ad cs hsrc
  have hst := run_storeCells_at P g 0 t cs 0 cur w hg (by simp; omega) h1
  have e : cur.toList.take (0 + 0) ++ cs ++ cur.toList.drop (0 + 0 + cs.length) = cs := by
    rw [List.take_zero, List.nil_append, List.drop_eq_nil_of_le (by simp; omega), List.append_nil]
  rw [e] at hst
  cases hq : P.info? elem with
  | none => simp [hq] at hs
  | some i =>
    have hi : i.size = k := by simpa [hq] using hs
    simp [Builtin.copy_, run_underlying hu, Builtin.lenOf, Builtin.firstCells, sizeOf, typeInfo, hq, hi, ← hn, hl, hst]
theorem run_copy_zero {P : Program} (w : World) (dT sT ty elem : TypeId) (d s : Option Addr) (dCap sCap k : Nat) (hu : P.underlying dT = some (.slice elem)) (hs : (P.info? elem).map (·.size) = some k) :
    (Builtin.copy_ #[dT, sT] ty #[.slice d 0 dCap, .slice s 0 sCap]).run P w = .ok (goInt 0) w := by
  cases hq : P.info? elem with
  | none => simp [hq] at hs
  | some i =>
    have hl : ∀ (x : Addr), (loadCells x 0).run P w = .ok #[] w := fun x => by simpa using run_loadCells_list (P := P) w x [] (by simp)
    cases d <;> cases s <;> simp [Builtin.copy_, run_underlying hu, Builtin.lenOf, Builtin.firstCells, sizeOf, typeInfo, hq, storeCells, hl]
/-- A whole copy into a row that the call made. -/
theorem wpList_copy_all {P : Program} {w : World} {ops : Array Oper} {rest : List Oper} {o : Oper} {a : Act} {Q : Exit → Act → World → Prop} (hgd : o.guard = none) (d s : Operand) (dT sT : TypeId)
    (ho : o.op = .call { callee := .builtin .copy, args := #[d, s], argTypes := #[dT, sT] }) (elem : TypeId) (hu : P.underlying dT = some (.slice elem)) (k : Nat) (hsz : (P.info? elem).map (·.size) = some k)
    (sp : Option Addr) (n dCap sCap g : Nat) (hd : a.eval d = .slice (some ⟨g, 0, none⟩) n dCap) (hs : a.eval s = .slice sp n sCap)
    (cur : List Value) (t : TypeId) (hg : w.heap[g]? = some (.cells cur.toArray t (0, 0))) (cs : List Value) (hn : cs.length = n * k) (hc : cur.length = n * k)
    (hpos : 0 < n → ∃ ad, sp = some ad ∧ ∀ j v, cs[j]? = some v → w.cell? (ad.add j) = some v) (h1 : ∀ v ∈ cs, v.oneCell' = true) (B : Nat) (w0 : World) (hb : Below B w0 w) (hBg : B ≤ g)
    (h : ∀ w', Hid (w'.heap[g]? = some (.cells cs.toArray t (0, 0))) → Below B w0 w' → wpList P ops Q rest (a.put o.dst (goInt n)) w') :
    wpList P ops Q (o :: rest) a w := by
  by_cases h0 : n = 0
  · subst h0
    rw [Nat.zero_mul] at hn hc
    obtain rfl : cs = [] := List.eq_nil_of_length_eq_zero hn
    obtain rfl : cur = [] := List.eq_nil_of_length_eq_zero hc
    refine wpList_plain hgd fun K hK => ?_
    have hrun := run_copy_zero (P := P) w dT sT o.type elem (some ⟨g, 0, none⟩) sp dCap sCap k hu hsz
    unfold Oper.wp
    simp [execOp, ho, resolve, invoke, builtin, hd, hs, hrun, Result.andThen]
    exact hK _ _ (h w hg hb)
  · obtain ⟨ad, rfl, hsrc⟩ := hpos (by omega)
    refine wpList_plain hgd fun K hK => ?_
    have hrun := run_copy_all (P := P) w dT sT o.type elem g n dCap ad sCap k cur.toArray t cs hu hsz hg hn hsrc (by simp; omega) h1
    unfold Oper.wp
    simp [execOp, ho, resolve, invoke, builtin, hd, hs, hrun, Result.andThen]
    exact hK _ _ (h _ (show _ = _ by exact setRow_heap w g _ _ t _ hg) (below_setRow hb hBg _))
theorem row_whole {w : World} {B g n k : Nat} {T : TypeId} {xs : List Value} (h : w.ownsRow B T k (.slice (some ⟨g, 0, none⟩) n n) n xs) : ∃ cur : List Value, w.heap[g]? = some (.cells cur.toArray T (0, 0)) ∧ cur.length = n * k := by
  rcases h.2 with ⟨h0, _⟩ | ⟨g', cap, cur, e, hb, hg, h1, h2, h3, h4⟩
  · cases h0
  · injection e with e1 e2 e3
    injection e1 with e1
    injection e1 with e1
    subst e1 e3
    exact ⟨cur.toList, by rw [hg], by simpa using h3⟩
/-- The cells of n rows, one behind the other. -/
def gcat (X : Nat → List Value) : Nat → List Value
  | 0 => []
  | n + 1 => gcat X n ++ X n
theorem gcat_len {k : Nat} {X : Nat → List Value} : ∀ {n : Nat}, (∀ i, i < n → (X i).length = k) → (gcat X n).length = n * k
  | 0, _ => by simp [gcat]
  | n + 1, h => by rw [gcat, List.length_append, gcat_len (fun i hi => h i (by omega)), h n (by omega), Nat.succ_mul]
theorem gcat_at {k : Nat} {X : Nat → List Value} : ∀ {n : Nat}, (∀ i, i < n → (X i).length = k) → ∀ i j, i < n → j < k → (gcat X n)[i * k + j]? = (X i)[j]?
  | 0, _, i, j, hi, _ => by omega
  | n + 1, h, i, j, hi, hj => by
    have hl := gcat_len (n := n) (X := X) (k := k) (fun i hi => h i (by omega))
    rw [gcat]
    by_cases e : i = n
    · subst e
      rw [List.getElem?_append_right (by omega), show i * k + j - (gcat X i).length = j by omega]
    · have h1 : i * k + j < n * k := row_apart (k := k) (m := n) (by omega) hj (Nat.le_refl _)
      rw [List.getElem?_append_left (by omega)]
      exact gcat_at (fun i hi => h i (by omega)) i j (by omega) hj
theorem gcat_congr {X Z : Nat → List Value} : ∀ {n : Nat}, (∀ i, i < n → X i = Z i) → gcat X n = gcat Z n
  | 0, _ => rfl
  | n + 1, h => by rw [gcat, gcat, gcat_congr (fun i hi => h i (by omega)), h n (by omega)]
theorem gcat_one {X : Nat → List Value} : ∀ {n : Nat}, (∀ i, i < n → ∀ u ∈ X i, u.oneCell' = true) → ∀ u ∈ gcat X n, u.oneCell' = true
  | 0, _, u, hu => by simp [gcat] at hu
  | n + 1, h, u, hu => by
    rw [gcat, List.mem_append] at hu
    rcases hu with hu | hu
    · exact gcat_one (fun i hi => h i (by omega)) u hu
    · exact h n (by omega) u hu
theorem gcat_app (X Z : Nat → List Value) (n : Nat) : ∀ m, gcat X n ++ gcat Z m = gcat (fun i => if i < n then X i else Z (i - n)) (n + m)
  | 0 => by
    rw [gcat, List.append_nil, Nat.add_zero]
    exact gcat_congr fun i hi => by rw [if_pos hi]
  | m + 1 => by
    rw [gcat, ← List.append_assoc, gcat_app X Z n m, show n + (m + 1) = n + m + 1 by omega, gcat, if_neg (by omega), Nat.add_sub_cancel_left]
theorem gcat_split {k j n : Nat} (hk : 0 < k) (hj : j < n * k) : ∃ i r, i < n ∧ r < k ∧ j = i * k + r := by
  refine ⟨j / k, j % k, Nat.div_lt_of_lt_mul (by rw [Nat.mul_comm]; exact hj), Nat.mod_lt _ hk, ?_⟩
  have := Nat.div_add_mod j k
  rw [Nat.mul_comm] at this
  omega
/-- Rows that are read lie as their cells one behind the other. -/
theorem gcat_src {k b off n : Nat} {w : World} {X : Nat → List Value} (hk : 0 < k) (hl : ∀ i, i < n → (X i).length = k) (h : ∀ i, i < n → CellsAt w b (off + i * k) (X i)) : ∀ j u, (gcat X n)[j]? = some u → w.cell? ((⟨b, off, none⟩ : Addr).add j) = some u := fun j u e => by
  rw [add_plain]
  have hj : j < (gcat X n).length := (List.getElem?_eq_some_iff.1 e).1
  rw [gcat_len hl] at hj
  obtain ⟨i, r, hi, hr, rfl⟩ := gcat_split hk hj
  rw [gcat_at hl i r hi hr] at e
  have := h i hi r u e
  rw [← Nat.add_assoc]
  exact this
theorem GBlk.of_heap {k B n : Nat} {w : World} {T : TypeId} {X : Nat → List Value} (hl : ∀ i, i < n → (X i).length = k) (h : w.heap[B]? = some (.cells (gcat X n).toArray T (0, 0))) : GBlk k w B n n X := by
  have hlen := gcat_len hl
  refine ⟨(Array.getElem?_eq_some_iff.1 h).1, fun j => by simp [World.frozen?, h], fun i hi j hj => ?_, fun i hi j v hj => ?_⟩
  · have h1 : i * k + j < n * k := row_apart (k := k) (m := n) hi hj (Nat.le_refl _)
    have : i * k + j < (gcat X n).length := by omega
    exact ⟨(gcat X n)[i * k + j], by simp [World.cell?, h, List.getElem?_eq_getElem this]⟩
  · have hj3 : j < k := by
      have := (List.getElem?_eq_some_iff.1 hj).1
      rw [hl i hi] at this
      exact this
    have e := gcat_at hl i j hi hj3
    rw [hj] at e
    simp [World.cell?, h, e]
/-- Rows that a call owns: where they lie, and that they may be written. -/
theorem own_gen {T : TypeId} {k base n : Nat} {w : World} {v : Value} {X : Nat → List Value} (hl : ∀ i, i < n → (X i).length = k) (h : w.ownsRow base T k v n (gcat X n)) : ∃ A cap, v = .slice A n cap ∧ n ≤ cap ∧ GSeg k w A n X ∧ WR k base w.heap.size w A n := by
  rcases h.2 with ⟨h0, h1⟩ | ⟨g, cap, cur, rfl, hb, hg, h1, h2, h3, h4⟩
  · exact ⟨none, 0, by rw [h0, h1], by omega, fun h => absurd h (by omega), fun h => absurd h (by omega)⟩
  · have hlt : g < w.heap.size := by
      rcases Nat.lt_or_ge g w.heap.size with hlt | hge
      · exact hlt
      · rw [Array.getElem?_eq_none hge] at hg; cases hg
    have hcell : ∀ i, i < n → CellsAt w g (0 + i * k) (X i) := fun i hi j v hj => by
      have hj3 : j < k := by
        have := (List.getElem?_eq_some_iff.1 hj).1
        rw [hl i hi] at this
        exact this
      have e : (gcat X n)[i * k + j]? = some v := by rw [gcat_at hl i j hi hj3]; exact hj
      have hj2 : i * k + j < n * k := row_apart (k := k) (m := n) hi hj3 (Nat.le_refl _)
      rw [← h4, List.getElem?_take, if_pos hj2] at e
      rw [Nat.zero_add]
      have e2 : cur[i * k + j]? = some v := by simpa using e
      simp [World.cell?, hg, e2]
    refine ⟨_, _, rfl, h1, fun h0 => ⟨g, 0, rfl, hlt, hcell⟩, fun h0 => ⟨g, 0, rfl, hb, hlt, hlt, fun i j hi hj => ?_, fun j => by simp [World.frozen?, hg]⟩⟩
    have hl2 : j < (X i).length := by rw [hl i hi]; exact hj
    exact ⟨_, hcell i hi j _ (List.getElem?_eq_getElem hl2)⟩
theorem slX_len (xs : List slT) (i : Nat) : (slX xs i).length = 3 := rfl
theorem chX_len (xs : List chT) (i : Nat) : (chX xs i).length = 4 := rfl
theorem inX_len (xs : List Int) (i : Nat) : (inX xs i).length = 1 := rfl
theorem wiX_len (xs : List wiT) (i : Nat) : (wiX xs i).length = 3 := rfl
theorem rwX_len (Y : Nat → Rw) (i : Nat) : (rwL (Y i)).length = 5 := rfl
theorem slX_one (xs : List slT) (i : Nat) : ∀ u ∈ slX xs i, u.oneCell' = true := by
  intro u hu
  simp only [slX, slL, List.mem_cons, List.not_mem_nil, or_false] at hu
  rcases hu with rfl | rfl | rfl <;> rfl
theorem chX_one (xs : List chT) (i : Nat) : ∀ u ∈ chX xs i, u.oneCell' = true := by
  intro u hu
  simp only [chX, chL, List.mem_cons, List.not_mem_nil, or_false] at hu
  rcases hu with rfl | rfl | rfl | rfl <;> rfl
theorem inX_one (xs : List Int) (i : Nat) : ∀ u ∈ inX xs i, u.oneCell' = true := by
  intro u hu
  simp only [inX, List.mem_cons, List.not_mem_nil, or_false] at hu
  rcases hu with rfl <;> rfl
theorem wiX_one (xs : List wiT) (i : Nat) : ∀ u ∈ wiX xs i, u.oneCell' = true := by
  intro u hu
  simp only [wiX, wiL, List.mem_cons, List.not_mem_nil, or_false] at hu
  rcases hu with rfl | rfl | rfl <;> rfl
theorem rwX_one (Y : Nat → Rw) (i : Nat) : ∀ u ∈ rwL (Y i), u.oneCell' = true := by
  intro u hu
  simp only [rwL, List.mem_cons, List.not_mem_nil, or_false] at hu
  rcases hu with rfl | rfl | rfl | rfl | rfl <;> rfl
theorem inf_int : (Tryz.prog.info? 3).map (fun i => (i.zero, i.size, i.bytes)) = some (some (.int .i64 0), 1, 8) := by kernel_rfl
set_option maxRecDepth 20000 in
set_option maxHeartbeats 2000000 in
theorem cp_int (a : Option Addr) (n c : Nat) (XS : List Value) (w : World) (hl : XS.length = n * 1) (hn : n ≤ 1048576) (hs : 0 < n → ∃ ad, a = some ad ∧ ∀ j v, XS[j]? = some v → w.cell? (ad.add j) = some v) (hlt : ∀ ad, 0 < n → a = some ad → ad.block < w.heap.size) (h1 : ∀ u ∈ XS, u.oneCell' = true) :
    Calls Tryz.prog 77 #[.slice a n c] w fun e w' => e = .returned (.slice (some ⟨w.heap.size, 0, none⟩) n n) ∧ Below w.heap.size w w' ∧ w'.heap[w.heap.size]? = some (.cells XS.toArray 3 (0, 0)) := by
  obtain ⟨iW, hi, hi'⟩ := Option.map_eq_some_iff.1 inf_int
  simp only [Prod.mk.injEq] at hi'
  have HI : Hid (Tryz.prog.info? 3 = some iW ∧ iW.zero = some (.int .i64 0) ∧ iW.size = 1 ∧ iW.bytes * n ≤ 281474976710656) := ⟨hi, hi'.1, hi'.2.1, by rw [hi'.2.2]; omega⟩
  have HSZ : Hid ((Tryz.prog.info? 3).map (·.size) = some 1) := by show _ = _; rw [hi]; simp [hi'.2.1]
  have HML : Hid (n ≤ maxLen) := by have : maxLen = 9223372036854775807 := rfl; show n ≤ maxLen; omega
  have HXL : Hid (XS.length = n * 1) := hl
  have HS : Hid (∀ w1, Below w.heap.size w w1 → 0 < n → ∃ ad, a = some ad ∧ ∀ j v, XS[j]? = some v → w1.cell? (ad.add j) = some v) := fun w1 hb h0 => by
    obtain ⟨ad, e, h⟩ := hs h0
    refine ⟨ad, e, fun j v hj => ?_⟩
    have hb1 : (ad.add j).block = ad.block := by unfold Addr.add; split <;> rfl
    exact (hb.cell (p := ad.add j) (by rw [hb1]; exact hlt ad h0 e)).trans (h j v hj)
  have H1 : Hid (∀ u ∈ XS, u.oneCell' = true) := h1
  clear hl hs hlt h1 hi hi'
  go_enter Tryz.func77, Tryz.ntmps77
  go_wp2_with (first
    | (at_make; refine wpList_make_full _ rfl (.tmp 5) (.tmp 5) 27 rfl w.heap.size 3 iW (.int .i64 0) 1 Tryz.underlying27 HI.out.1 HI.out.2.1 HI.out.2.2.1 .i64 .i64 n n n rfl rfl rfl rfl HI.out.2.2.2 HML.out (Nat.le_refl _) ?_; intro w1 ho1 hg1; have HB1 : Hid (Below w.heap.size w w1) := Below.grown (Below.refl _ w) hg1 (Nat.le_refl _) (fun g e => by cases e); obtain ⟨cur, hcur, hcl⟩ := row_whole ho1; have HC : Hid (w1.heap[w.heap.size]? = some (.cells cur.toArray 3 (0, 0)) ∧ cur.length = n * 1) := ⟨hcur, hcl⟩; clear ho1 hg1 hcur hcl)
    | (refine wpList_copy_all rfl (.tmp 7) (.tmp 8) 27 27 rfl 3 Tryz.underlying27 1 HSZ.out _ n n c w.heap.size rfl rfl cur 3 HC.out.1 XS HXL.out HC.out.2 (HS.out _ HB1.out) H1.out w.heap.size w HB1.out (Nat.le_refl _) ?_; intro w2 HG2 hB2; have HB2 : Hid (Below w.heap.size w w2) := hB2; clear hB2))
  go_ret
  exact ⟨rfl, HB2.out, HG2.out⟩
theorem cpg_int (a : Option Addr) (n c : Nat) (X : Nat → List Value) (w : World) (hs : GSeg 1 w a n X) (hX : ∀ i, (X i).length = 1) (h1 : ∀ i, ∀ u ∈ X i, u.oneCell' = true) (hn : n ≤ 1048576) :
    Calls Tryz.prog 77 #[.slice a n c] w fun e w' => e = .returned (.slice (some ⟨w.heap.size, 0, none⟩) n n) ∧ Below w.heap.size w w' ∧ GBlk 1 w' w.heap.size n n X :=
  (cp_int a n c (gcat X n) w (gcat_len fun i _ => hX i) hn (fun h0 => by
    obtain ⟨b, off, e, hlt, hc⟩ := hs h0
    exact ⟨_, e, gcat_src (by decide) (fun i _ => hX i) hc⟩) (fun ad h0 e => by
    obtain ⟨b, off, e', hlt, _⟩ := hs h0
    rw [e] at e'
    injection e' with e'
    subst e'
    exact hlt) (gcat_one fun i _ => h1 i)).mono fun e w' ⟨g1, g2, g3⟩ => ⟨g1, g2, GBlk.of_heap (fun i _ => hX i) g3⟩
theorem inf_chn : (Tryz.prog.info? 95).map (fun i => (i.zero, i.size, i.bytes)) = some (some (.agg #[.int .i64 0, .int .i64 0, .int .i64 0, .int .i64 0]), 4, 32) := by kernel_rfl
set_option maxRecDepth 20000 in
set_option maxHeartbeats 2000000 in
theorem cp_chn (a : Option Addr) (n c : Nat) (XS : List Value) (w : World) (hl : XS.length = n * 4) (hn : n ≤ 1048576) (hs : 0 < n → ∃ ad, a = some ad ∧ ∀ j v, XS[j]? = some v → w.cell? (ad.add j) = some v) (hlt : ∀ ad, 0 < n → a = some ad → ad.block < w.heap.size) (h1 : ∀ u ∈ XS, u.oneCell' = true) :
    Calls Tryz.prog 78 #[.slice a n c] w fun e w' => e = .returned (.slice (some ⟨w.heap.size, 0, none⟩) n n) ∧ Below w.heap.size w w' ∧ w'.heap[w.heap.size]? = some (.cells XS.toArray 95 (0, 0)) := by
  obtain ⟨iW, hi, hi'⟩ := Option.map_eq_some_iff.1 inf_chn
  simp only [Prod.mk.injEq] at hi'
  have HI : Hid (Tryz.prog.info? 95 = some iW ∧ iW.zero = some (.agg #[.int .i64 0, .int .i64 0, .int .i64 0, .int .i64 0]) ∧ iW.size = 4 ∧ iW.bytes * n ≤ 281474976710656) := ⟨hi, hi'.1, hi'.2.1, by rw [hi'.2.2]; omega⟩
  have HSZ : Hid ((Tryz.prog.info? 95).map (·.size) = some 4) := by show _ = _; rw [hi]; simp [hi'.2.1]
  have HML : Hid (n ≤ maxLen) := by have : maxLen = 9223372036854775807 := rfl; show n ≤ maxLen; omega
  have HXL : Hid (XS.length = n * 4) := hl
  have HS : Hid (∀ w1, Below w.heap.size w w1 → 0 < n → ∃ ad, a = some ad ∧ ∀ j v, XS[j]? = some v → w1.cell? (ad.add j) = some v) := fun w1 hb h0 => by
    obtain ⟨ad, e, h⟩ := hs h0
    refine ⟨ad, e, fun j v hj => ?_⟩
    have hb1 : (ad.add j).block = ad.block := by unfold Addr.add; split <;> rfl
    exact (hb.cell (p := ad.add j) (by rw [hb1]; exact hlt ad h0 e)).trans (h j v hj)
  have H1 : Hid (∀ u ∈ XS, u.oneCell' = true) := h1
  clear hl hs hlt h1 hi hi'
  go_enter Tryz.func78, Tryz.ntmps78
  go_wp2_with (first
    | (at_make; refine wpList_make_full _ rfl (.tmp 5) (.tmp 5) 36 rfl w.heap.size 95 iW (.agg #[.int .i64 0, .int .i64 0, .int .i64 0, .int .i64 0]) 4 Tryz.underlying36 HI.out.1 HI.out.2.1 HI.out.2.2.1 .i64 .i64 n n n rfl rfl rfl rfl HI.out.2.2.2 HML.out (Nat.le_refl _) ?_; intro w1 ho1 hg1; have HB1 : Hid (Below w.heap.size w w1) := Below.grown (Below.refl _ w) hg1 (Nat.le_refl _) (fun g e => by cases e); obtain ⟨cur, hcur, hcl⟩ := row_whole ho1; have HC : Hid (w1.heap[w.heap.size]? = some (.cells cur.toArray 95 (0, 0)) ∧ cur.length = n * 4) := ⟨hcur, hcl⟩; clear ho1 hg1 hcur hcl)
    | (refine wpList_copy_all rfl (.tmp 7) (.tmp 8) 36 36 rfl 95 Tryz.underlying36 4 HSZ.out _ n n c w.heap.size rfl rfl cur 95 HC.out.1 XS HXL.out HC.out.2 (HS.out _ HB1.out) H1.out w.heap.size w HB1.out (Nat.le_refl _) ?_; intro w2 HG2 hB2; have HB2 : Hid (Below w.heap.size w w2) := hB2; clear hB2))
  go_ret
  exact ⟨rfl, HB2.out, HG2.out⟩
theorem cpg_chn (a : Option Addr) (n c : Nat) (X : Nat → List Value) (w : World) (hs : GSeg 4 w a n X) (hX : ∀ i, (X i).length = 4) (h1 : ∀ i, ∀ u ∈ X i, u.oneCell' = true) (hn : n ≤ 1048576) :
    Calls Tryz.prog 78 #[.slice a n c] w fun e w' => e = .returned (.slice (some ⟨w.heap.size, 0, none⟩) n n) ∧ Below w.heap.size w w' ∧ GBlk 4 w' w.heap.size n n X :=
  (cp_chn a n c (gcat X n) w (gcat_len fun i _ => hX i) hn (fun h0 => by
    obtain ⟨b, off, e, hlt, hc⟩ := hs h0
    exact ⟨_, e, gcat_src (by decide) (fun i _ => hX i) hc⟩) (fun ad h0 e => by
    obtain ⟨b, off, e', hlt, _⟩ := hs h0
    rw [e] at e'
    injection e' with e'
    subst e'
    exact hlt) (gcat_one fun i _ => h1 i)).mono fun e w' ⟨g1, g2, g3⟩ => ⟨g1, g2, GBlk.of_heap (fun i _ => hX i) g3⟩
theorem inf_slt : (Tryz.prog.info? 59).map (fun i => (i.zero, i.size, i.bytes)) = some (some (.agg #[.int .i64 0, .int .i64 0, .int .i64 0]), 3, 24) := by kernel_rfl
set_option maxRecDepth 20000 in
set_option maxHeartbeats 2000000 in
theorem cp_slt (a : Option Addr) (n c : Nat) (XS : List Value) (w : World) (hl : XS.length = n * 3) (hn : n ≤ 1048576) (hs : 0 < n → ∃ ad, a = some ad ∧ ∀ j v, XS[j]? = some v → w.cell? (ad.add j) = some v) (hlt : ∀ ad, 0 < n → a = some ad → ad.block < w.heap.size) (h1 : ∀ u ∈ XS, u.oneCell' = true) :
    Calls Tryz.prog 79 #[.slice a n c] w fun e w' => e = .returned (.slice (some ⟨w.heap.size, 0, none⟩) n n) ∧ Below w.heap.size w w' ∧ w'.heap[w.heap.size]? = some (.cells XS.toArray 59 (0, 0)) := by
  obtain ⟨iW, hi, hi'⟩ := Option.map_eq_some_iff.1 inf_slt
  simp only [Prod.mk.injEq] at hi'
  have HI : Hid (Tryz.prog.info? 59 = some iW ∧ iW.zero = some (.agg #[.int .i64 0, .int .i64 0, .int .i64 0]) ∧ iW.size = 3 ∧ iW.bytes * n ≤ 281474976710656) := ⟨hi, hi'.1, hi'.2.1, by rw [hi'.2.2]; omega⟩
  have HSZ : Hid ((Tryz.prog.info? 59).map (·.size) = some 3) := by show _ = _; rw [hi]; simp [hi'.2.1]
  have HML : Hid (n ≤ maxLen) := by have : maxLen = 9223372036854775807 := rfl; show n ≤ maxLen; omega
  have HXL : Hid (XS.length = n * 3) := hl
  have HS : Hid (∀ w1, Below w.heap.size w w1 → 0 < n → ∃ ad, a = some ad ∧ ∀ j v, XS[j]? = some v → w1.cell? (ad.add j) = some v) := fun w1 hb h0 => by
    obtain ⟨ad, e, h⟩ := hs h0
    refine ⟨ad, e, fun j v hj => ?_⟩
    have hb1 : (ad.add j).block = ad.block := by unfold Addr.add; split <;> rfl
    exact (hb.cell (p := ad.add j) (by rw [hb1]; exact hlt ad h0 e)).trans (h j v hj)
  have H1 : Hid (∀ u ∈ XS, u.oneCell' = true) := h1
  clear hl hs hlt h1 hi hi'
  go_enter Tryz.func79, Tryz.ntmps79
  go_wp2_with (first
    | (at_make; refine wpList_make_full _ rfl (.tmp 5) (.tmp 5) 37 rfl w.heap.size 59 iW (.agg #[.int .i64 0, .int .i64 0, .int .i64 0]) 3 Tryz.underlying37 HI.out.1 HI.out.2.1 HI.out.2.2.1 .i64 .i64 n n n rfl rfl rfl rfl HI.out.2.2.2 HML.out (Nat.le_refl _) ?_; intro w1 ho1 hg1; have HB1 : Hid (Below w.heap.size w w1) := Below.grown (Below.refl _ w) hg1 (Nat.le_refl _) (fun g e => by cases e); obtain ⟨cur, hcur, hcl⟩ := row_whole ho1; have HC : Hid (w1.heap[w.heap.size]? = some (.cells cur.toArray 59 (0, 0)) ∧ cur.length = n * 3) := ⟨hcur, hcl⟩; clear ho1 hg1 hcur hcl)
    | (refine wpList_copy_all rfl (.tmp 7) (.tmp 8) 37 37 rfl 59 Tryz.underlying37 3 HSZ.out _ n n c w.heap.size rfl rfl cur 59 HC.out.1 XS HXL.out HC.out.2 (HS.out _ HB1.out) H1.out w.heap.size w HB1.out (Nat.le_refl _) ?_; intro w2 HG2 hB2; have HB2 : Hid (Below w.heap.size w w2) := hB2; clear hB2))
  go_ret
  exact ⟨rfl, HB2.out, HG2.out⟩
theorem cpg_slt (a : Option Addr) (n c : Nat) (X : Nat → List Value) (w : World) (hs : GSeg 3 w a n X) (hX : ∀ i, (X i).length = 3) (h1 : ∀ i, ∀ u ∈ X i, u.oneCell' = true) (hn : n ≤ 1048576) :
    Calls Tryz.prog 79 #[.slice a n c] w fun e w' => e = .returned (.slice (some ⟨w.heap.size, 0, none⟩) n n) ∧ Below w.heap.size w w' ∧ GBlk 3 w' w.heap.size n n X :=
  (cp_slt a n c (gcat X n) w (gcat_len fun i _ => hX i) hn (fun h0 => by
    obtain ⟨b, off, e, hlt, hc⟩ := hs h0
    exact ⟨_, e, gcat_src (by decide) (fun i _ => hX i) hc⟩) (fun ad h0 e => by
    obtain ⟨b, off, e', hlt, _⟩ := hs h0
    rw [e] at e'
    injection e' with e'
    subst e'
    exact hlt) (gcat_one fun i _ => h1 i)).mono fun e w' ⟨g1, g2, g3⟩ => ⟨g1, g2, GBlk.of_heap (fun i _ => hX i) g3⟩
theorem inf_win : (Tryz.prog.info? 105).map (fun i => (i.zero, i.size, i.bytes)) = some (some (.agg #[.int .i64 0, .int .i64 0, .int .i64 0]), 3, 24) := by kernel_rfl
set_option maxRecDepth 20000 in
set_option maxHeartbeats 2000000 in
theorem cp_win (a : Option Addr) (n c : Nat) (XS : List Value) (w : World) (hl : XS.length = n * 3) (hn : n ≤ 1048576) (hs : 0 < n → ∃ ad, a = some ad ∧ ∀ j v, XS[j]? = some v → w.cell? (ad.add j) = some v) (hlt : ∀ ad, 0 < n → a = some ad → ad.block < w.heap.size) (h1 : ∀ u ∈ XS, u.oneCell' = true) :
    Calls Tryz.prog 76 #[.slice a n c] w fun e w' => e = .returned (.slice (some ⟨w.heap.size, 0, none⟩) n n) ∧ Below w.heap.size w w' ∧ w'.heap[w.heap.size]? = some (.cells XS.toArray 105 (0, 0)) := by
  obtain ⟨iW, hi, hi'⟩ := Option.map_eq_some_iff.1 inf_win
  simp only [Prod.mk.injEq] at hi'
  have HI : Hid (Tryz.prog.info? 105 = some iW ∧ iW.zero = some (.agg #[.int .i64 0, .int .i64 0, .int .i64 0]) ∧ iW.size = 3 ∧ iW.bytes * n ≤ 281474976710656) := ⟨hi, hi'.1, hi'.2.1, by rw [hi'.2.2]; omega⟩
  have HSZ : Hid ((Tryz.prog.info? 105).map (·.size) = some 3) := by show _ = _; rw [hi]; simp [hi'.2.1]
  have HML : Hid (n ≤ maxLen) := by have : maxLen = 9223372036854775807 := rfl; show n ≤ maxLen; omega
  have HXL : Hid (XS.length = n * 3) := hl
  have HS : Hid (∀ w1, Below w.heap.size w w1 → 0 < n → ∃ ad, a = some ad ∧ ∀ j v, XS[j]? = some v → w1.cell? (ad.add j) = some v) := fun w1 hb h0 => by
    obtain ⟨ad, e, h⟩ := hs h0
    refine ⟨ad, e, fun j v hj => ?_⟩
    have hb1 : (ad.add j).block = ad.block := by unfold Addr.add; split <;> rfl
    exact (hb.cell (p := ad.add j) (by rw [hb1]; exact hlt ad h0 e)).trans (h j v hj)
  have H1 : Hid (∀ u ∈ XS, u.oneCell' = true) := h1
  clear hl hs hlt h1 hi hi'
  go_enter Tryz.func76, Tryz.ntmps76
  go_wp2_with (first
    | (at_make; refine wpList_make_full _ rfl (.tmp 5) (.tmp 5) 90 rfl w.heap.size 105 iW (.agg #[.int .i64 0, .int .i64 0, .int .i64 0]) 3 Tryz.underlying90 HI.out.1 HI.out.2.1 HI.out.2.2.1 .i64 .i64 n n n rfl rfl rfl rfl HI.out.2.2.2 HML.out (Nat.le_refl _) ?_; intro w1 ho1 hg1; have HB1 : Hid (Below w.heap.size w w1) := Below.grown (Below.refl _ w) hg1 (Nat.le_refl _) (fun g e => by cases e); obtain ⟨cur, hcur, hcl⟩ := row_whole ho1; have HC : Hid (w1.heap[w.heap.size]? = some (.cells cur.toArray 105 (0, 0)) ∧ cur.length = n * 3) := ⟨hcur, hcl⟩; clear ho1 hg1 hcur hcl)
    | (refine wpList_copy_all rfl (.tmp 7) (.tmp 8) 90 90 rfl 105 Tryz.underlying90 3 HSZ.out _ n n c w.heap.size rfl rfl cur 105 HC.out.1 XS HXL.out HC.out.2 (HS.out _ HB1.out) H1.out w.heap.size w HB1.out (Nat.le_refl _) ?_; intro w2 HG2 hB2; have HB2 : Hid (Below w.heap.size w w2) := hB2; clear hB2))
  go_ret
  exact ⟨rfl, HB2.out, HG2.out⟩
theorem cpg_win (a : Option Addr) (n c : Nat) (X : Nat → List Value) (w : World) (hs : GSeg 3 w a n X) (hX : ∀ i, (X i).length = 3) (h1 : ∀ i, ∀ u ∈ X i, u.oneCell' = true) (hn : n ≤ 1048576) :
    Calls Tryz.prog 76 #[.slice a n c] w fun e w' => e = .returned (.slice (some ⟨w.heap.size, 0, none⟩) n n) ∧ Below w.heap.size w w' ∧ GBlk 3 w' w.heap.size n n X :=
  (cp_win a n c (gcat X n) w (gcat_len fun i _ => hX i) hn (fun h0 => by
    obtain ⟨b, off, e, hlt, hc⟩ := hs h0
    exact ⟨_, e, gcat_src (by decide) (fun i _ => hX i) hc⟩) (fun ad h0 e => by
    obtain ⟨b, off, e', hlt, _⟩ := hs h0
    rw [e] at e'
    injection e' with e'
    subst e'
    exact hlt) (gcat_one fun i _ => h1 i)).mono fun e w' ⟨g1, g2, g3⟩ => ⟨g1, g2, GBlk.of_heap (fun i _ => hX i) g3⟩
theorem inf_prt : (Tryz.prog.info? 92).map (fun i => (i.zero, i.size, i.bytes)) = some (some (.agg #[.string ByteArray.empty, .int .i64 0, .int .i64 0, .int .i64 0, .slice none 0 0]), 5, 64) := by kernel_rfl
set_option maxRecDepth 20000 in
set_option maxHeartbeats 2000000 in
theorem cp_prt (a : Option Addr) (n c : Nat) (XS : List Value) (w : World) (hl : XS.length = n * 5) (hn : n ≤ 1048576) (hs : 0 < n → ∃ ad, a = some ad ∧ ∀ j v, XS[j]? = some v → w.cell? (ad.add j) = some v) (hlt : ∀ ad, 0 < n → a = some ad → ad.block < w.heap.size) (h1 : ∀ u ∈ XS, u.oneCell' = true) :
    Calls Tryz.prog 75 #[.slice a n c] w fun e w' => e = .returned (.slice (some ⟨w.heap.size, 0, none⟩) n n) ∧ Below w.heap.size w w' ∧ w'.heap[w.heap.size]? = some (.cells XS.toArray 92 (0, 0)) := by
  obtain ⟨iW, hi, hi'⟩ := Option.map_eq_some_iff.1 inf_prt
  simp only [Prod.mk.injEq] at hi'
  have HI : Hid (Tryz.prog.info? 92 = some iW ∧ iW.zero = some (.agg #[.string ByteArray.empty, .int .i64 0, .int .i64 0, .int .i64 0, .slice none 0 0]) ∧ iW.size = 5 ∧ iW.bytes * n ≤ 281474976710656) := ⟨hi, hi'.1, hi'.2.1, by rw [hi'.2.2]; omega⟩
  have HSZ : Hid ((Tryz.prog.info? 92).map (·.size) = some 5) := by show _ = _; rw [hi]; simp [hi'.2.1]
  have HML : Hid (n ≤ maxLen) := by have : maxLen = 9223372036854775807 := rfl; show n ≤ maxLen; omega
  have HXL : Hid (XS.length = n * 5) := hl
  have HS : Hid (∀ w1, Below w.heap.size w w1 → 0 < n → ∃ ad, a = some ad ∧ ∀ j v, XS[j]? = some v → w1.cell? (ad.add j) = some v) := fun w1 hb h0 => by
    obtain ⟨ad, e, h⟩ := hs h0
    refine ⟨ad, e, fun j v hj => ?_⟩
    have hb1 : (ad.add j).block = ad.block := by unfold Addr.add; split <;> rfl
    exact (hb.cell (p := ad.add j) (by rw [hb1]; exact hlt ad h0 e)).trans (h j v hj)
  have H1 : Hid (∀ u ∈ XS, u.oneCell' = true) := h1
  clear hl hs hlt h1 hi hi'
  go_enter Tryz.func75, Tryz.ntmps75
  go_wp2_with (first
    | (at_make; refine wpList_make_full _ rfl (.tmp 5) (.tmp 5) 35 rfl w.heap.size 92 iW (.agg #[.string ByteArray.empty, .int .i64 0, .int .i64 0, .int .i64 0, .slice none 0 0]) 5 Tryz.underlying35 HI.out.1 HI.out.2.1 HI.out.2.2.1 .i64 .i64 n n n rfl rfl rfl rfl HI.out.2.2.2 HML.out (Nat.le_refl _) ?_; intro w1 ho1 hg1; have HB1 : Hid (Below w.heap.size w w1) := Below.grown (Below.refl _ w) hg1 (Nat.le_refl _) (fun g e => by cases e); obtain ⟨cur, hcur, hcl⟩ := row_whole ho1; have HC : Hid (w1.heap[w.heap.size]? = some (.cells cur.toArray 92 (0, 0)) ∧ cur.length = n * 5) := ⟨hcur, hcl⟩; clear ho1 hg1 hcur hcl)
    | (refine wpList_copy_all rfl (.tmp 7) (.tmp 8) 35 35 rfl 92 Tryz.underlying35 5 HSZ.out _ n n c w.heap.size rfl rfl cur 92 HC.out.1 XS HXL.out HC.out.2 (HS.out _ HB1.out) H1.out w.heap.size w HB1.out (Nat.le_refl _) ?_; intro w2 HG2 hB2; have HB2 : Hid (Below w.heap.size w w2) := hB2; clear hB2))
  go_ret
  exact ⟨rfl, HB2.out, HG2.out⟩
theorem cpg_prt (a : Option Addr) (n c : Nat) (X : Nat → List Value) (w : World) (hs : GSeg 5 w a n X) (hX : ∀ i, (X i).length = 5) (h1 : ∀ i, ∀ u ∈ X i, u.oneCell' = true) (hn : n ≤ 1048576) :
    Calls Tryz.prog 75 #[.slice a n c] w fun e w' => e = .returned (.slice (some ⟨w.heap.size, 0, none⟩) n n) ∧ Below w.heap.size w w' ∧ GBlk 5 w' w.heap.size n n X :=
  (cp_prt a n c (gcat X n) w (gcat_len fun i _ => hX i) hn (fun h0 => by
    obtain ⟨b, off, e, hlt, hc⟩ := hs h0
    exact ⟨_, e, gcat_src (by decide) (fun i _ => hX i) hc⟩) (fun ad h0 e => by
    obtain ⟨b, off, e', hlt, _⟩ := hs h0
    rw [e] at e'
    injection e' with e'
    subst e'
    exact hlt) (gcat_one fun i _ => h1 i)).mono fun e w' ⟨g1, g2, g3⟩ => ⟨g1, g2, GBlk.of_heap (fun i _ => hX i) g3⟩
end Go.Proofs.YthieilkabcehgaaGreatDoor
