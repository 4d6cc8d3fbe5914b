
/-
  The program's copies of lists, of elements of one cell or more: in memory of their own. Conditions: at most 1048576 elements.
-/
import Derived.Test.YtanffdedignegaaBas
import Derived.Test.YtanffdedignegaaProg
import Derived.Test.YtanffdedignegaaSegs
import Derived.Laws.CopyOwn
import Derived.OwnWalk
namespace Go.Proofs.Ytanffdedignegaa
open Go.ChangeShapes Go.WideShapes Go.ChangeAt Go.RowKit Go.Deep
set_option linter.unusedVariables false

theorem run_copy_all {P : Program} (w : World) (dT sT ty elem : TypeId) (g n dCap : Nat) (ad : Addr) (sCap k : Nat) (cur : Array Value) (t : TypeId) (cs : List Value)
    (hu : P.underlying dT = some (.slice elem)) (hs : (P.info? elem).map (·.size) = some k)
    (hg : w.heap[g]? = some (.cells cur t (0, 0))) (hn : cs.length = n * k)
    (hsrc : ∀ j v, cs[j]? = some v → w.cell? (ad.add j) = some v) (hfit : cs.length = cur.size) (h1 : ∀ v ∈ cs, v.oneCell' = true) :
    (Builtin.copy_ #[dT, sT] ty #[.slice (some ⟨g, 0, none⟩) n dCap, .slice (some ad) n sCap]).run P w = .ok (goInt n) (w.setRow g cs.toArray) := by
  have hl := run_loadCells_list (P := P) w ad cs hsrc
  have hst := run_storeCells_at P g 0 t cs 0 cur w hg (by simp; omega) h1
  have e : cur.toList.take (0 + 0) ++ cs ++ cur.toList.drop (0 + 0 + cs.length) = cs := by
    rw [List.take_zero, List.nil_append, List.drop_eq_nil_of_le (by simp; omega), List.append_nil]
  rw [e] at hst
  cases hq : P.info? elem with
  | none => simp [hq] at hs
  | some i =>
    have hi : i.size = k := by simpa [hq] using hs
    simp [Builtin.copy_, run_underlying hu, Builtin.lenOf, Builtin.firstCells, sizeOf, typeInfo, hq, hi, ← hn, hl, hst]
theorem run_copy_zero {P : Program} (w : World) (dT sT ty elem : TypeId) (d s : Option Addr) (dCap sCap k : Nat) (hu : P.underlying dT = some (.slice elem)) (hs : (P.info? elem).map (·.size) = some k) :
    (Builtin.copy_ #[dT, sT] ty #[.slice d 0 dCap, .slice s 0 sCap]).run P w = .ok (goInt 0) w := by
  cases hq : P.info? elem with
  | none => simp [hq] at hs
  | some i =>
    have hl : ∀ (x : Addr), (loadCells x 0).run P w = .ok #[] w := fun x => by simpa using run_loadCells_list (P := P) w x [] (by simp)
    cases d <;> cases s <;> simp [Builtin.copy_, run_underlying hu, Builtin.lenOf, Builtin.firstCells, sizeOf, typeInfo, hq, storeCells, hl]
/-- A whole copy into a row that the call made. -/
theorem wpList_copy_all {P : Program} {w : World} {ops : Array Oper} {rest : List Oper} {o : Oper} {a : Act} {Q : Exit → Act → World → Prop} (hgd : o.guard = none) (d s : Operand) (dT sT : TypeId)
    (ho : o.op = .call { callee := .builtin .copy, args := #[d, s], argTypes := #[dT, sT] }) (elem : TypeId) (hu : P.underlying dT = some (.slice elem)) (k : Nat) (hsz : (P.info? elem).map (·.size) = some k)
    (sp : Option Addr) (n dCap sCap g : Nat) (hd : a.eval d = .slice (some ⟨g, 0, none⟩) n dCap) (hs : a.eval s = .slice sp n sCap)
    (cur : List Value) (t : TypeId) (hg : w.heap[g]? = some (.cells cur.toArray t (0, 0))) (cs : List Value) (hn : cs.length = n * k) (hc : cur.length = n * k)
    (hpos : 0 < n → ∃ ad, sp = some ad ∧ ∀ j v, cs[j]? = some v → w.cell? (ad.add j) = some v) (h1 : ∀ v ∈ cs, v.oneCell' = true) (B : Nat) (w0 : World) (hb : Below B w0 w) (hBg : B ≤ g)
    (h : ∀ w', Hid (w'.heap[g]? = some (.cells cs.toArray t (0, 0))) → Below B w0 w' → wpList P ops Q rest (a.put o.dst (goInt n)) w') :
    wpList P ops Q (o :: rest) a w := by
  by_cases h0 : n = 0
  · subst h0
    rw [Nat.zero_mul] at hn hc
    obtain rfl : cs = [] := List.eq_nil_of_length_eq_zero hn
    obtain rfl : cur = [] := List.eq_nil_of_length_eq_zero hc
    refine wpList_plain hgd fun K hK => ?_
    have hrun := run_copy_zero (P := P) w dT sT o.type elem (some ⟨g, 0, none⟩) sp dCap sCap k hu hsz
    unfold Oper.wp
    simp [execOp, ho, resolve, invoke, builtin, hd, hs, hrun, Result.andThen]
    exact hK _ _ (h w hg hb)
  · obtain ⟨ad, rfl, hsrc⟩ := hpos (by omega)
    refine wpList_plain hgd fun K hK => ?_
    have hrun := run_copy_all (P := P) w dT sT o.type elem g n dCap ad sCap k cur.toArray t cs hu hsz hg hn hsrc (by simp; omega) h1
    unfold Oper.wp
    simp [execOp, ho, resolve, invoke, builtin, hd, hs, hrun, Result.andThen]
    exact hK _ _ (h _ (show _ = _ by exact setRow_heap w g _ _ t _ hg) (below_setRow hb hBg _))
theorem row_whole {w : World} {B g n k : Nat} {T : TypeId} {xs : List Value} (h : w.ownsRow B T k (.slice (some ⟨g, 0, none⟩) n n) n xs) : ∃ cur : List Value, w.heap[g]? = some (.cells cur.toArray T (0, 0)) ∧ cur.length = n * k := by
  rcases h.2 with ⟨h0, _⟩ | ⟨g', cap, cur, e, hb, hg, h1, h2, h3, h4⟩
  · cases h0
  · injection e with e1 e2 e3
    injection e1 with e1
    injection e1 with e1
    subst e1 e3
    exact ⟨cur.toList, by rw [hg], by simpa using h3⟩
theorem own_heap {k : IntKind} {w : World} {B : Nat} {zs : List Int} {T : TypeId} (h : w.heap[B]? = some (.cells (zs.map (Value.int k)).toArray T (0, 0))) : Own k w B zs :=
  ⟨(Array.getElem?_eq_some_iff.1 h).1, fun i hi => by simp [World.cell?, h, List.getD, hi], fun i => by simp [World.frozen?, h]⟩
theorem num_src {k : IntKind} {w : World} {a : Option Addr} {zs : List Int} (hs : Seg k w a zs) (h0 : 0 < zs.length) : ∃ ad, a = some ad ∧ ∀ j v, (zs.map (Value.int k))[j]? = some v → w.cell? (ad.add j) = some v := by
  obtain ⟨b, off, e, hlt, hc⟩ := hs h0
  refine ⟨_, e, fun j v hj => ?_⟩
  rw [List.getElem?_map] at hj
  obtain ⟨z, hz, rfl⟩ := Option.map_eq_some_iff.1 hj
  have hj2 : j < zs.length := (List.getElem?_eq_some_iff.1 hz).1
  have := hc j hj2
  have hadd : (⟨b, off, none⟩ : Addr).add j = ⟨b, off + j, none⟩ := by unfold Addr.add; split <;> simp_all
  rw [hadd, this]
  simp [List.getD, hz]
theorem num_one (k : IntKind) (zs : List Int) : ∀ u ∈ zs.map (Value.int k), u.oneCell' = true := by
  intro u hu
  obtain ⟨z, _, rfl⟩ := List.mem_map.1 hu
  rfl
theorem inf_byte : (Try.prog.info? 5).map (fun i => (i.zero, i.size, i.bytes)) = some (some (.int .u8 0), 1, 1) := by kernel_rfl
set_option maxRecDepth 20000 in
set_option maxHeartbeats 2000000 in
theorem cp_byte (a : Option Addr) (n c : Nat) (XS : List Value) (w : World) (hl : XS.length = n * 1) (hn : n ≤ 1048576) (hs : 0 < n → ∃ ad, a = some ad ∧ ∀ j v, XS[j]? = some v → w.cell? (ad.add j) = some v) (hlt : ∀ ad, 0 < n → a = some ad → ad.block < w.heap.size) (h1 : ∀ u ∈ XS, u.oneCell' = true) :
    Calls Try.prog 55 #[.slice a n c] w fun e w' => e = .returned (.slice (some ⟨w.heap.size, 0, none⟩) n n) ∧ Below w.heap.size w w' ∧ w'.heap[w.heap.size]? = some (.cells XS.toArray 5 (0, 0)) := by
  obtain ⟨iW, hi, hi'⟩ := Option.map_eq_some_iff.1 inf_byte
  simp only [Prod.mk.injEq] at hi'
  have HI : Hid (Try.prog.info? 5 = some iW ∧ iW.zero = some (.int .u8 0) ∧ iW.size = 1 ∧ iW.bytes * n ≤ 281474976710656) := ⟨hi, hi'.1, hi'.2.1, by rw [hi'.2.2]; omega⟩
  have HSZ : Hid ((Try.prog.info? 5).map (·.size) = some 1) := by show _ = _; rw [hi]; simp [hi'.2.1]
  have HML : Hid (n ≤ maxLen) := by have : maxLen = 9223372036854775807 := rfl; show n ≤ maxLen; omega
  have HXL : Hid (XS.length = n * 1) := hl
  have HS : Hid (∀ w1, Below w.heap.size w w1 → 0 < n → ∃ ad, a = some ad ∧ ∀ j v, XS[j]? = some v → w1.cell? (ad.add j) = some v) := fun w1 hb h0 => by
    obtain ⟨ad, e, h⟩ := hs h0
    refine ⟨ad, e, fun j v hj => ?_⟩
    have hb1 : (ad.add j).block = ad.block := by unfold Addr.add; split <;> rfl
    exact (hb.cell (p := ad.add j) (by rw [hb1]; exact hlt ad h0 e)).trans (h j v hj)
  have H1 : Hid (∀ u ∈ XS, u.oneCell' = true) := h1
  clear hl hs hlt h1 hi hi'
  go_enter Try.func55, Try.ntmps55
  go_wp2_with (first
    | (at_make; refine wpList_make_full _ rfl (.tmp 5) (.tmp 5) 22 rfl w.heap.size 5 iW (.int .u8 0) 1 Try.underlying22 HI.out.1 HI.out.2.1 HI.out.2.2.1 .i64 .i64 n n n rfl rfl rfl rfl HI.out.2.2.2 HML.out (Nat.le_refl _) ?_; intro w1 ho1 hg1; have HB1 : Hid (Below w.heap.size w w1) := Below.grown (Below.refl _ w) hg1 (Nat.le_refl _) (fun g e => by cases e); obtain ⟨cur, hcur, hcl⟩ := row_whole ho1; have HC : Hid (w1.heap[w.heap.size]? = some (.cells cur.toArray 5 (0, 0)) ∧ cur.length = n * 1) := ⟨hcur, hcl⟩; clear ho1 hg1 hcur hcl)
    | (refine wpList_copy_all rfl (.tmp 7) (.tmp 8) 22 22 rfl 5 Try.underlying22 1 HSZ.out _ n n c w.heap.size rfl rfl cur 5 HC.out.1 XS HXL.out HC.out.2 (HS.out _ HB1.out) H1.out w.heap.size w HB1.out (Nat.le_refl _) ?_; intro w2 HG2 hB2; have HB2 : Hid (Below w.heap.size w w2) := hB2; clear hB2))
  go_ret
  exact ⟨rfl, HB2.out, HG2.out⟩
theorem cp_u8s (a : Option Addr) (n c : Nat) (zs : List Int) (w : World) (hs : Seg .u8 w a zs) (hl : zs.length = n) (hn : n ≤ 1048576) :
    Calls Try.prog 55 #[.slice a n c] w fun e w' => e = .returned (.slice (some ⟨w.heap.size, 0, none⟩) n n) ∧ Below w.heap.size w w' ∧ Own .u8 w' w.heap.size zs :=
  (cp_byte a n c (zs.map (Value.int .u8)) w (by simp; omega) hn (fun h0 => num_src hs (by omega)) (fun ad h0 e => by
    obtain ⟨b, off, e', hlt, _⟩ := hs (by omega)
    rw [e] at e'
    injection e' with e'
    subst e'
    exact hlt) (num_one _ _)).mono fun e w' ⟨h1, h2, h3⟩ => ⟨h1, h2, own_heap h3⟩
theorem inf_u32 : (Try.prog.info? 26).map (fun i => (i.zero, i.size, i.bytes)) = some (some (.int .u32 0), 1, 4) := by kernel_rfl
set_option maxRecDepth 20000 in
set_option maxHeartbeats 2000000 in
theorem cp_u32 (a : Option Addr) (n c : Nat) (XS : List Value) (w : World) (hl : XS.length = n * 1) (hn : n ≤ 1048576) (hs : 0 < n → ∃ ad, a = some ad ∧ ∀ j v, XS[j]? = some v → w.cell? (ad.add j) = some v) (hlt : ∀ ad, 0 < n → a = some ad → ad.block < w.heap.size) (h1 : ∀ u ∈ XS, u.oneCell' = true) :
    Calls Try.prog 35 #[.slice a n c] w fun e w' => e = .returned (.slice (some ⟨w.heap.size, 0, none⟩) n n) ∧ Below w.heap.size w w' ∧ w'.heap[w.heap.size]? = some (.cells XS.toArray 26 (0, 0)) := by
  obtain ⟨iW, hi, hi'⟩ := Option.map_eq_some_iff.1 inf_u32
  simp only [Prod.mk.injEq] at hi'
  have HI : Hid (Try.prog.info? 26 = some iW ∧ iW.zero = some (.int .u32 0) ∧ iW.size = 1 ∧ iW.bytes * n ≤ 281474976710656) := ⟨hi, hi'.1, hi'.2.1, by rw [hi'.2.2]; omega⟩
  have HSZ : Hid ((Try.prog.info? 26).map (·.size) = some 1) := by show _ = _; rw [hi]; simp [hi'.2.1]
  have HML : Hid (n ≤ maxLen) := by have : maxLen = 9223372036854775807 := rfl; show n ≤ maxLen; omega
  have HXL : Hid (XS.length = n * 1) := hl
  have HS : Hid (∀ w1, Below w.heap.size w w1 → 0 < n → ∃ ad, a = some ad ∧ ∀ j v, XS[j]? = some v → w1.cell? (ad.add j) = some v) := fun w1 hb h0 => by
    obtain ⟨ad, e, h⟩ := hs h0
    refine ⟨ad, e, fun j v hj => ?_⟩
    have hb1 : (ad.add j).block = ad.block := by unfold Addr.add; split <;> rfl
    exact (hb.cell (p := ad.add j) (by rw [hb1]; exact hlt ad h0 e)).trans (h j v hj)
  have H1 : Hid (∀ u ∈ XS, u.oneCell' = true) := h1
  clear hl hs hlt h1 hi hi'
  go_enter Try.func35, Try.ntmps35
  go_wp2_with (first
    | (at_make; refine wpList_make_full _ rfl (.tmp 5) (.tmp 5) 25 rfl w.heap.size 26 iW (.int .u32 0) 1 Try.underlying25 HI.out.1 HI.out.2.1 HI.out.2.2.1 .i64 .i64 n n n rfl rfl rfl rfl HI.out.2.2.2 HML.out (Nat.le_refl _) ?_; intro w1 ho1 hg1; have HB1 : Hid (Below w.heap.size w w1) := Below.grown (Below.refl _ w) hg1 (Nat.le_refl _) (fun g e => by cases e); obtain ⟨cur, hcur, hcl⟩ := row_whole ho1; have HC : Hid (w1.heap[w.heap.size]? = some (.cells cur.toArray 26 (0, 0)) ∧ cur.length = n * 1) := ⟨hcur, hcl⟩; clear ho1 hg1 hcur hcl)
    | (refine wpList_copy_all rfl (.tmp 7) (.tmp 8) 25 25 rfl 26 Try.underlying25 1 HSZ.out _ n n c w.heap.size rfl rfl cur 26 HC.out.1 XS HXL.out HC.out.2 (HS.out _ HB1.out) H1.out w.heap.size w HB1.out (Nat.le_refl _) ?_; intro w2 HG2 hB2; have HB2 : Hid (Below w.heap.size w w2) := hB2; clear hB2))
  go_ret
  exact ⟨rfl, HB2.out, HG2.out⟩
theorem cp_u32s (a : Option Addr) (n c : Nat) (zs : List Int) (w : World) (hs : Seg .u32 w a zs) (hl : zs.length = n) (hn : n ≤ 1048576) :
    Calls Try.prog 35 #[.slice a n c] w fun e w' => e = .returned (.slice (some ⟨w.heap.size, 0, none⟩) n n) ∧ Below w.heap.size w w' ∧ Own .u32 w' w.heap.size zs :=
  (cp_u32 a n c (zs.map (Value.int .u32)) w (by simp; omega) hn (fun h0 => num_src hs (by omega)) (fun ad h0 e => by
    obtain ⟨b, off, e', hlt, _⟩ := hs (by omega)
    rw [e] at e'
    injection e' with e'
    subst e'
    exact hlt) (num_one _ _)).mono fun e w' ⟨h1, h2, h3⟩ => ⟨h1, h2, own_heap h3⟩
theorem inf_int : (Try.prog.info? 3).map (fun i => (i.zero, i.size, i.bytes)) = some (some (.int .i64 0), 1, 8) := by kernel_rfl
end Go.Proofs.Ytanffdedignegaa
