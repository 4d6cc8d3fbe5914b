
/-
  The program's queue made of a list, its device made of two, and the lists handed out again. Conditions: at most 8 words in each list, that read as words.
-/
import Derived.Test.YthfmggfohegpnaaRows
import Derived.Test.YthfmggfohegpnaaDve
import Derived.Test.YthfmggfohegpnaaDvs
import Derived.OwnWalk
namespace Go.Proofs.Ythfmggfohegpnaa
open Go.ChangeShapes Go.WideShapes Go.ChangeAt Go.RowKit Go.Deep
set_option linter.unusedVariables false

theorem row_full {w : World} {B g n : Nat} {xs : List Value} (h : w.ownsRow B 31 1 (.slice (some ⟨g, 0, none⟩) n n) n xs) : ∃ cur : List Value, w.heap[g]? = some (.cells cur.toArray 31 (0, 0)) ∧ cur.length = n := by
  rcases h.2 with ⟨h0, _⟩ | ⟨g', cap, cur, e, hb, hg, h1, h2, h3, h4⟩
  · cases h0
  · injection e with e1 e2 e3
    injection e1 with e1
    injection e1 with e1
    subst e1 e3
    exact ⟨cur.toList, by rw [hg], by simpa using h3⟩
theorem full_own {w : World} {B g n : Nat} {zs : List Int} (hB : B ≤ g) (hl : zs.length = n) (hn : n ≤ 2097152) (h : w.heap[g]? = some (.cells (zs.map (Value.int .u32)).toArray 31 (0, 0))) : OwnU w B (.slice (some ⟨g, 0, none⟩) n n) zs := by
  subst hl
  refine ⟨by simp, .inr ⟨g, zs.length, _, rfl, hB, h, Nat.le_refl _, ?_, by simp, by rw [Nat.mul_one]; exact List.take_of_length_le (by simp)⟩⟩
  have : maxLen = 9223372036854775807 := rfl
  omega
theorem splice_all {α : Type} (L cs : List α) (h : cs.length = L.length) : splice L 0 cs = cs := by
  unfold splice
  rw [List.take_zero, List.nil_append, List.drop_eq_nil_of_le (by omega), List.append_nil]
theorem copy_src {w : World} {a : Option Addr} {zs : List Int} (hs : Seg .u32 w a zs) (h0 : 0 < (zs.map (Value.int .u32)).length) : ∃ ad, a = some ad ∧ ∀ j v, (zs.map (Value.int .u32))[j]? = some v → w.cell? (ad.add j) = some v := by
  obtain ⟨b, off, e, hlt, hc⟩ := hs (by simpa using h0)
  exact ⟨_, e, news_us hc⟩
set_option maxRecDepth 20000 in
set_option maxHeartbeats 2000000 in
theorem impl_copied (a : Option Addr) (n c : Nat) (zs : List Int) (w : World) (hs : Seg .u32 w a zs) (hl : zs.length = n) (hn : n ≤ 1048576) :
    Calls Try.prog 59 #[.slice a n c] w fun e w' => ∃ g, e = .returned (.slice (some ⟨g, 0, none⟩) n n) ∧ Below w.heap.size w w' ∧ OwnU w' w.heap.size (.slice (some ⟨g, 0, none⟩) n n) zs := by
  obtain ⟨iW, hi1, hi2, hi3, hi4⟩ := infoU'
  have HI : Hid (Try.prog.info? 31 = some iW ∧ iW.zero = some (.int .u32 0) ∧ iW.size = 1 ∧ iW.bytes * n ≤ 281474976710656) := ⟨hi1, hi2, hi3, by rw [hi4]; omega⟩
  have HS : Hid (Seg .u32 w a zs) := hs
  have HL : Hid (zs.length = n) := hl
  have HML : Hid (n ≤ maxLen) := by have : maxLen = 9223372036854775807 := rfl; show n ≤ maxLen; omega
  obtain ⟨XS, HX⟩ : ∃ XS, Hid (XS = zs.map (Value.int .u32)) := ⟨_, rfl⟩
  have HXL : Hid (XS.length = n) := by rw [HX.out]; show _ = _; simpa using hl
  clear hs hl hi1 hi2 hi3 hi4
  go_enter Try.func59, Try.ntmps59
  go_wp2_with (first
    | (at_make; refine wpList_make_full _ rfl (.tmp 5) (.tmp 5) 22 rfl w.heap.size 31 iW (.int .u32 0) 1 Try.underlying22 HI.out.1 HI.out.2.1 HI.out.2.2.1 .i64 .i64 n n n rfl rfl rfl rfl HI.out.2.2.2 HML.out (Nat.le_refl _) ?_; intro w1 ho1 hg1; have HB1 : Hid (Below w.heap.size w w1) := Below.grown (Below.refl _ w) hg1 (Nat.le_refl _) (fun g e => by cases e); obtain ⟨cur, hcur, hcl⟩ := row_full ho1; have HC : Hid (w1.heap[w.heap.size]? = some (.cells cur.toArray 31 (0, 0)) ∧ cur.length = n) := ⟨hcur, hcl⟩; have HS1 : Hid (Seg .u32 w1 a zs) := HS.out.below HB1.out; clear ho1 hg1 hcur hcl)
    | (refine wpList_copy_splice rfl (.tmp 7) (.tmp 8) 22 22 rfl 31 Try.underlying22 infoU1 _ _ n n n c rfl rfl w.heap.size 0 cur 31 HC.out.1 XS (by rw [HXL.out]; exact (Nat.min_self n).symm) (fun h0 => ⟨rfl, by rw [HX.out] at h0 ⊢; exact copy_src HS1.out h0⟩) (by rw [HXL.out, HC.out.2]; omega) (by rw [HX.out]; exact us_one zs) w.heap.size w HB1.out (Nat.le_refl _) ?_; intro w2 HG2 hB2; have HB2 : Hid (Below w.heap.size w w2) := hB2; clear hB2))
  go_ret
  refine ⟨_, rfl, HB2.out, full_own (Nat.le_refl _) HL.out (by omega) ?_⟩
  rw [HG2.out, splice_all _ _ (by rw [HXL.out, HC.out.2]), HX.out]
abbrev qrw (zs : List Int) : Array Value := #[.int .u32 (zs.getD 0 0), .int .u32 (zs.getD 1 0), .int .u32 (zs.getD 2 0), .int .u32 (zs.getD 3 0), .int .u32 (zs.getD 4 0), .int .u32 (zs.getD 5 0), .int .u32 (zs.getD 6 0), .int .u32 (zs.getD 7 0), .int .i64 (zs.length : Int)]
abbrev qvl (zs : List Int) : Value := .agg (qrw zs)
abbrev dvw (zs ys : List Int) : Array Value := #[.int .u32 (zs.getD 0 0), .int .u32 (zs.getD 1 0), .int .u32 (zs.getD 2 0), .int .u32 (zs.getD 3 0), .int .u32 (zs.getD 4 0), .int .u32 (zs.getD 5 0), .int .u32 (zs.getD 6 0), .int .u32 (zs.getD 7 0), .int .i64 (zs.length : Int), .int .u32 (ys.getD 0 0), .int .u32 (ys.getD 1 0), .int .u32 (ys.getD 2 0), .int .u32 (ys.getD 3 0), .int .u32 (ys.getD 4 0), .int .u32 (ys.getD 5 0), .int .u32 (ys.getD 6 0), .int .u32 (ys.getD 7 0), .int .i64 (ys.length : Int)]
theorem qrw_at (zs : List Int) (i : Nat) (hi : i < 8) : (qrw zs)[i]? = some (.int .u32 (zs.getD i 0)) := by
  match i, hi with
  | 0, _ => rfl
  | 1, _ => rfl
  | 2, _ => rfl
  | 3, _ => rfl
  | 4, _ => rfl
  | 5, _ => rfl
  | 6, _ => rfl
  | 7, _ => rfl
theorem dvw_at (zs ys : List Int) (hz : zs.length ≤ 8) (hy : ys.length ≤ 8) : Qat (dvw zs ys).toList 0 zs ∧ Qat (dvw zs ys).toList 9 ys := by
  refine ⟨⟨hz, fun i hi => ?_, rfl⟩, ⟨hy, fun i hi => ?_, rfl⟩⟩
  · match i, hi with
    | 0, _ => rfl
    | 1, _ => rfl
    | 2, _ => rfl
    | 3, _ => rfl
    | 4, _ => rfl
    | 5, _ => rfl
    | 6, _ => rfl
    | 7, _ => rfl
  · match i, hi with
    | 0, _ => rfl
    | 1, _ => rfl
    | 2, _ => rfl
    | 3, _ => rfl
    | 4, _ => rfl
    | 5, _ => rfl
    | 6, _ => rfl
    | 7, _ => rfl
theorem DvM.new (w : World) (B : Nat) (zs ys : List Int) (hB : B = w.heap.size) (hz : zs.length ≤ 8) (hy : ys.length ≤ 8) : DvM (w.alloc (.cells (dvw zs ys) 65)) B zs ys := by
  subst hB
  refine ⟨(dvw zs ys).toList, ?_, rfl, (dvw_at zs ys hz hy).1, (dvw_at zs ys hz hy).2⟩
  show (w.heap.push _)[w.heap.size]? = _
  simp
theorem Row.new (w : World) (B : Nat) (T : TypeId) (cur : List Value) (hB : B = w.heap.size) : Row (w.alloc (.cells cur.toArray T)) B T cur := by
  subst hB
  show (w.heap.push _)[w.heap.size]? = _
  simp
/-- A copy into a block, at an operation that is run in its turn. -/
theorem wpList_copy_q {ops : Array Oper} {rest : List Oper} {o : Oper} {a : Act} {w : World} {Q : Exit → Act → World → Prop} (hgd : o.guard = none) (d s : Operand) (dT sT : TypeId)
    (ho : o.op = .call { callee := .builtin .copy, args := #[d, s], argTypes := #[dT, sT] }) (elem : TypeId) (hu : Try.prog.underlying dT = some (.slice elem)) (hsz : (Try.prog.info? elem).map (·.size) = some 1)
    (dp sp : Option Addr) (dLen dCap sLen sCap : Nat) (hd : a.eval d = .slice dp dLen dCap) (hs : a.eval s = .slice sp sLen sCap)
    (g off : Nat) (cur : List Value) (t : TypeId) (hg : Row w g t cur) (cs : List Value) (N : Nat) (hN : cs.length = N) (hn : N = Nat.min sLen dLen)
    (hpos : 0 < N → dp = some ⟨g, off, none⟩ ∧ ∃ ad, sp = some ad ∧ ∀ j v, cs[j]? = some v → w.cell? (ad.add j) = some v)
    (hfit : off + N ≤ cur.length) (h1 : ∀ v ∈ cs, v.oneCell' = true)
    (h : ∀ w', Row w' g t (splice cur off cs) → Betw g (g + 1) w w' → wpList Try.prog ops Q rest (a.put o.dst (goInt N)) w') : wpList Try.prog ops Q (o :: rest) a w := by
  subst hN
  refine wpList_plain hgd fun K hK => ?_
  by_cases h0 : cs.length = 0
  · obtain rfl : cs = [] := List.eq_nil_of_length_eq_zero h0
    have hrun := run_copy_none (P := Try.prog) w dT sT o.type elem dp sp dLen dCap sLen sCap hu hsz (by simpa using hn.symm)
    unfold Oper.wp
    simp [execOp, ho, resolve, invoke, builtin, hd, hs, hrun, Result.andThen]
    exact hK _ _ (h w (by simpa [splice] using hg) (Betw.refl _ _ _))
  · obtain ⟨rfl, ad, rfl, hsrc⟩ := hpos (by omega)
    have hrun := run_copy_row (P := Try.prog) w dT sT o.type elem g off dLen dCap ad sLen sCap cur.toArray t cs hu hsz hg hn hsrc (by simpa using hfit) h1
    unfold Oper.wp
    simp [execOp, ho, resolve, invoke, builtin, hd, hs, hrun, Result.andThen]
    refine hK _ _ (h _ ?_ (row_betw _))
    show _ = _
    simpa [splice] using setRow_heap w g _ _ t _ hg
theorem row9 {w : World} {b : Nat} {u0 u1 u2 u3 u4 u5 u6 u7 u8 : Value} (h : Bk w b #[u0, u1, u2, u3, u4, u5, u6, u7, u8]) (v0 v1 v2 v3 v4 v5 v6 v7 v8 : Value) : Bk (((((((((w.setCell ⟨b, 0, none⟩ v0).setCell ⟨b, 1, none⟩ v1).setCell ⟨b, 2, none⟩ v2).setCell ⟨b, 3, none⟩ v3).setCell ⟨b, 4, none⟩ v4).setCell ⟨b, 5, none⟩ v5).setCell ⟨b, 6, none⟩ v6).setCell ⟨b, 7, none⟩ v7).setCell ⟨b, 8, none⟩ v8) b #[v0, v1, v2, v3, v4, v5, v6, v7, v8] ∧ Betw b (b + 1) w (((((((((w.setCell ⟨b, 0, none⟩ v0).setCell ⟨b, 1, none⟩ v1).setCell ⟨b, 2, none⟩ v2).setCell ⟨b, 3, none⟩ v3).setCell ⟨b, 4, none⟩ v4).setCell ⟨b, 5, none⟩ v5).setCell ⟨b, 6, none⟩ v6).setCell ⟨b, 7, none⟩ v7).setCell ⟨b, 8, none⟩ v8) := by
  have h1 := h.set 0 v0 (by simp) (cs' := #[v0, u1, u2, u3, u4, u5, u6, u7, u8]) rfl
  have h2 := h1.set 1 v1 (by simp) (cs' := #[v0, v1, u2, u3, u4, u5, u6, u7, u8]) rfl
  have h3 := h2.set 2 v2 (by simp) (cs' := #[v0, v1, v2, u3, u4, u5, u6, u7, u8]) rfl
  have h4 := h3.set 3 v3 (by simp) (cs' := #[v0, v1, v2, v3, u4, u5, u6, u7, u8]) rfl
  have h5 := h4.set 4 v4 (by simp) (cs' := #[v0, v1, v2, v3, v4, u5, u6, u7, u8]) rfl
  have h6 := h5.set 5 v5 (by simp) (cs' := #[v0, v1, v2, v3, v4, v5, u6, u7, u8]) rfl
  have h7 := h6.set 6 v6 (by simp) (cs' := #[v0, v1, v2, v3, v4, v5, v6, u7, u8]) rfl
  have h8 := h7.set 7 v7 (by simp) (cs' := #[v0, v1, v2, v3, v4, v5, v6, v7, u8]) rfl
  have h9 := h8.set 8 v8 (by simp) (cs' := #[v0, v1, v2, v3, v4, v5, v6, v7, v8]) rfl
  exact ⟨h9, ((((((((((Betw.refl b (b + 1) w).setCell (p := ⟨b, 0, none⟩) (Nat.le_refl _) (Nat.lt_succ_self _) v0).setCell (p := ⟨b, 1, none⟩) (Nat.le_refl _) (Nat.lt_succ_self _) v1).setCell (p := ⟨b, 2, none⟩) (Nat.le_refl _) (Nat.lt_succ_self _) v2).setCell (p := ⟨b, 3, none⟩) (Nat.le_refl _) (Nat.lt_succ_self _) v3).setCell (p := ⟨b, 4, none⟩) (Nat.le_refl _) (Nat.lt_succ_self _) v4).setCell (p := ⟨b, 5, none⟩) (Nat.le_refl _) (Nat.lt_succ_self _) v5).setCell (p := ⟨b, 6, none⟩) (Nat.le_refl _) (Nat.lt_succ_self _) v6).setCell (p := ⟨b, 7, none⟩) (Nat.le_refl _) (Nat.lt_succ_self _) v7).setCell (p := ⟨b, 8, none⟩) (Nat.le_refl _) (Nat.lt_succ_self _) v8)⟩
theorem row18 {w : World} {b : Nat} {u0 u1 u2 u3 u4 u5 u6 u7 u8 u9 u10 u11 u12 u13 u14 u15 u16 u17 : Value} (h : Bk w b #[u0, u1, u2, u3, u4, u5, u6, u7, u8, u9, u10, u11, u12, u13, u14, u15, u16, u17]) (v0 v1 v2 v3 v4 v5 v6 v7 v8 v9 v10 v11 v12 v13 v14 v15 v16 v17 : Value) : Bk ((((((((((((((((((w.setCell ⟨b, 0, none⟩ v0).setCell ⟨b, 1, none⟩ v1).setCell ⟨b, 2, none⟩ v2).setCell ⟨b, 3, none⟩ v3).setCell ⟨b, 4, none⟩ v4).setCell ⟨b, 5, none⟩ v5).setCell ⟨b, 6, none⟩ v6).setCell ⟨b, 7, none⟩ v7).setCell ⟨b, 8, none⟩ v8).setCell ⟨b, 9, none⟩ v9).setCell ⟨b, 10, none⟩ v10).setCell ⟨b, 11, none⟩ v11).setCell ⟨b, 12, none⟩ v12).setCell ⟨b, 13, none⟩ v13).setCell ⟨b, 14, none⟩ v14).setCell ⟨b, 15, none⟩ v15).setCell ⟨b, 16, none⟩ v16).setCell ⟨b, 17, none⟩ v17) b #[v0, v1, v2, v3, v4, v5, v6, v7, v8, v9, v10, v11, v12, v13, v14, v15, v16, v17] ∧ Betw b (b + 1) w ((((((((((((((((((w.setCell ⟨b, 0, none⟩ v0).setCell ⟨b, 1, none⟩ v1).setCell ⟨b, 2, none⟩ v2).setCell ⟨b, 3, none⟩ v3).setCell ⟨b, 4, none⟩ v4).setCell ⟨b, 5, none⟩ v5).setCell ⟨b, 6, none⟩ v6).setCell ⟨b, 7, none⟩ v7).setCell ⟨b, 8, none⟩ v8).setCell ⟨b, 9, none⟩ v9).setCell ⟨b, 10, none⟩ v10).setCell ⟨b, 11, none⟩ v11).setCell ⟨b, 12, none⟩ v12).setCell ⟨b, 13, none⟩ v13).setCell ⟨b, 14, none⟩ v14).setCell ⟨b, 15, none⟩ v15).setCell ⟨b, 16, none⟩ v16).setCell ⟨b, 17, none⟩ v17) := by
  have h1 := h.set 0 v0 (by simp) (cs' := #[v0, u1, u2, u3, u4, u5, u6, u7, u8, u9, u10, u11, u12, u13, u14, u15, u16, u17]) rfl
  have h2 := h1.set 1 v1 (by simp) (cs' := #[v0, v1, u2, u3, u4, u5, u6, u7, u8, u9, u10, u11, u12, u13, u14, u15, u16, u17]) rfl
  have h3 := h2.set 2 v2 (by simp) (cs' := #[v0, v1, v2, u3, u4, u5, u6, u7, u8, u9, u10, u11, u12, u13, u14, u15, u16, u17]) rfl
  have h4 := h3.set 3 v3 (by simp) (cs' := #[v0, v1, v2, v3, u4, u5, u6, u7, u8, u9, u10, u11, u12, u13, u14, u15, u16, u17]) rfl
  have h5 := h4.set 4 v4 (by simp) (cs' := #[v0, v1, v2, v3, v4, u5, u6, u7, u8, u9, u10, u11, u12, u13, u14, u15, u16, u17]) rfl
  have h6 := h5.set 5 v5 (by simp) (cs' := #[v0, v1, v2, v3, v4, v5, u6, u7, u8, u9, u10, u11, u12, u13, u14, u15, u16, u17]) rfl
  have h7 := h6.set 6 v6 (by simp) (cs' := #[v0, v1, v2, v3, v4, v5, v6, u7, u8, u9, u10, u11, u12, u13, u14, u15, u16, u17]) rfl
  have h8 := h7.set 7 v7 (by simp) (cs' := #[v0, v1, v2, v3, v4, v5, v6, v7, u8, u9, u10, u11, u12, u13, u14, u15, u16, u17]) rfl
  have h9 := h8.set 8 v8 (by simp) (cs' := #[v0, v1, v2, v3, v4, v5, v6, v7, v8, u9, u10, u11, u12, u13, u14, u15, u16, u17]) rfl
  have h10 := h9.set 9 v9 (by simp) (cs' := #[v0, v1, v2, v3, v4, v5, v6, v7, v8, v9, u10, u11, u12, u13, u14, u15, u16, u17]) rfl
  have h11 := h10.set 10 v10 (by simp) (cs' := #[v0, v1, v2, v3, v4, v5, v6, v7, v8, v9, v10, u11, u12, u13, u14, u15, u16, u17]) rfl
  have h12 := h11.set 11 v11 (by simp) (cs' := #[v0, v1, v2, v3, v4, v5, v6, v7, v8, v9, v10, v11, u12, u13, u14, u15, u16, u17]) rfl
  have h13 := h12.set 12 v12 (by simp) (cs' := #[v0, v1, v2, v3, v4, v5, v6, v7, v8, v9, v10, v11, v12, u13, u14, u15, u16, u17]) rfl
  have h14 := h13.set 13 v13 (by simp) (cs' := #[v0, v1, v2, v3, v4, v5, v6, v7, v8, v9, v10, v11, v12, v13, u14, u15, u16, u17]) rfl
  have h15 := h14.set 14 v14 (by simp) (cs' := #[v0, v1, v2, v3, v4, v5, v6, v7, v8, v9, v10, v11, v12, v13, v14, u15, u16, u17]) rfl
  have h16 := h15.set 15 v15 (by simp) (cs' := #[v0, v1, v2, v3, v4, v5, v6, v7, v8, v9, v10, v11, v12, v13, v14, v15, u16, u17]) rfl
  have h17 := h16.set 16 v16 (by simp) (cs' := #[v0, v1, v2, v3, v4, v5, v6, v7, v8, v9, v10, v11, v12, v13, v14, v15, v16, u17]) rfl
  have h18 := h17.set 17 v17 (by simp) (cs' := #[v0, v1, v2, v3, v4, v5, v6, v7, v8, v9, v10, v11, v12, v13, v14, v15, v16, v17]) rfl
  exact ⟨h18, (((((((((((((((((((Betw.refl b (b + 1) w).setCell (p := ⟨b, 0, none⟩) (Nat.le_refl _) (Nat.lt_succ_self _) v0).setCell (p := ⟨b, 1, none⟩) (Nat.le_refl _) (Nat.lt_succ_self _) v1).setCell (p := ⟨b, 2, none⟩) (Nat.le_refl _) (Nat.lt_succ_self _) v2).setCell (p := ⟨b, 3, none⟩) (Nat.le_refl _) (Nat.lt_succ_self _) v3).setCell (p := ⟨b, 4, none⟩) (Nat.le_refl _) (Nat.lt_succ_self _) v4).setCell (p := ⟨b, 5, none⟩) (Nat.le_refl _) (Nat.lt_succ_self _) v5).setCell (p := ⟨b, 6, none⟩) (Nat.le_refl _) (Nat.lt_succ_self _) v6).setCell (p := ⟨b, 7, none⟩) (Nat.le_refl _) (Nat.lt_succ_self _) v7).setCell (p := ⟨b, 8, none⟩) (Nat.le_refl _) (Nat.lt_succ_self _) v8).setCell (p := ⟨b, 9, none⟩) (Nat.le_refl _) (Nat.lt_succ_self _) v9).setCell (p := ⟨b, 10, none⟩) (Nat.le_refl _) (Nat.lt_succ_self _) v10).setCell (p := ⟨b, 11, none⟩) (Nat.le_refl _) (Nat.lt_succ_self _) v11).setCell (p := ⟨b, 12, none⟩) (Nat.le_refl _) (Nat.lt_succ_self _) v12).setCell (p := ⟨b, 13, none⟩) (Nat.le_refl _) (Nat.lt_succ_self _) v13).setCell (p := ⟨b, 14, none⟩) (Nat.le_refl _) (Nat.lt_succ_self _) v14).setCell (p := ⟨b, 15, none⟩) (Nat.le_refl _) (Nat.lt_succ_self _) v15).setCell (p := ⟨b, 16, none⟩) (Nat.le_refl _) (Nat.lt_succ_self _) v16).setCell (p := ⟨b, 17, none⟩) (Nat.le_refl _) (Nat.lt_succ_self _) v17)⟩
theorem zero9 (i : Nat) (hi : i < 8) : [.int .u32 0, .int .u32 0, .int .u32 0, .int .u32 0, .int .u32 0, .int .u32 0, .int .u32 0, .int .u32 0, .int .i64 0][i]? = some (Value.int .u32 0) := by
  match i, hi with
  | 0, _ => rfl
  | 1, _ => rfl
  | 2, _ => rfl
  | 3, _ => rfl
  | 4, _ => rfl
  | 5, _ => rfl
  | 6, _ => rfl
  | 7, _ => rfl
theorem qrow_cells (zs : List Int) (n : Nat) (hl : zs.length = n) (hn : n ≤ 8) : (splice [.int .u32 0, .int .u32 0, .int .u32 0, .int .u32 0, .int .u32 0, .int .u32 0, .int .u32 0, .int .u32 0, .int .i64 0] 0 (zs.map (Value.int .u32))).set 8 (.int .i64 (n : Int)) = (qrw zs).toList := by
  have hL : (zs.map (Value.int .u32)).length = n := by simp [hl]
  apply List.ext_getElem?
  intro i
  by_cases h8 : i = 8
  · subst h8
    rw [List.getElem?_set_self (by rw [length_splice _ _ _ (by rw [hL]; simp; omega)]; simp), ← hl]
    rfl
  · rw [List.getElem?_set_ne (by omega)]
    by_cases hi : i < 8
    · have hr : (qrw zs).toList[i]? = some (.int .u32 (zs.getD i 0)) := by rw [Array.getElem?_toList]; exact qrw_at zs i hi
      rw [hr]
      unfold splice
      rw [List.take_zero, List.nil_append, Nat.zero_add]
      by_cases hin : i < n
      · rw [List.getElem?_append_left (by omega), List.getElem?_map, List.getElem?_eq_getElem (by omega)]
        simp [List.getD, List.getElem?_eq_getElem (show i < zs.length by omega)]
      · rw [List.getElem?_append_right (by omega), hL, List.getElem?_drop, show n + (i - n) = i by omega, zero9 i hi]
        simp only [List.getD]
        rw [List.getElem?_eq_none (show zs.length ≤ i by omega)]
        rfl
    · rw [List.getElem?_eq_none (by rw [length_splice _ _ _ (by rw [hL]; simp; omega)]; simp; omega), List.getElem?_eq_none (by simp; omega)]
set_option maxRecDepth 20000 in
set_option maxHeartbeats 2000000 in
theorem impl_qof (a : Option Addr) (n c : Nat) (zs : List Int) (w : World) (hs : Seg .u32 w a zs) (hl : zs.length = n) (hn : n ≤ 8) :
    Calls Try.prog 58 #[.slice a n c] w fun e w' => e = .returned (qvl zs) ∧ Below w.heap.size w w' := by
  have HX0 : Hid (Below w.heap.size w ((w.alloc (.cells #[.int .u32 0, .int .u32 0, .int .u32 0, .int .u32 0, .int .u32 0, .int .u32 0, .int .u32 0, .int .u32 0, .int .i64 0] 63)).alloc (.cells #[.int .u32 0, .int .u32 0, .int .u32 0, .int .u32 0, .int .u32 0, .int .u32 0, .int .u32 0, .int .u32 0, .int .i64 0] 63))) := ((Below.refl _ w).alloc (Nat.le_refl _) _).alloc (by simp) _
  have HKR : Hid (Bk ((w.alloc (.cells #[.int .u32 0, .int .u32 0, .int .u32 0, .int .u32 0, .int .u32 0, .int .u32 0, .int .u32 0, .int .u32 0, .int .i64 0] 63)).alloc (.cells #[.int .u32 0, .int .u32 0, .int .u32 0, .int .u32 0, .int .u32 0, .int .u32 0, .int .u32 0, .int .u32 0, .int .i64 0] 63)) w.heap.size #[.int .u32 0, .int .u32 0, .int .u32 0, .int .u32 0, .int .u32 0, .int .u32 0, .int .u32 0, .int .u32 0, .int .i64 0]) := (Bk.new w _ _ _ rfl).alloc _
  have HR0 : Hid (Row ((w.alloc (.cells #[.int .u32 0, .int .u32 0, .int .u32 0, .int .u32 0, .int .u32 0, .int .u32 0, .int .u32 0, .int .u32 0, .int .i64 0] 63)).alloc (.cells #[.int .u32 0, .int .u32 0, .int .u32 0, .int .u32 0, .int .u32 0, .int .u32 0, .int .u32 0, .int .u32 0, .int .i64 0] 63)) (w.heap.size + 1) 63 [.int .u32 0, .int .u32 0, .int .u32 0, .int .u32 0, .int .u32 0, .int .u32 0, .int .u32 0, .int .u32 0, .int .i64 0]) := Row.new _ _ _ _ (by simp)
  have HS : Hid (Seg .u32 ((w.alloc (.cells #[.int .u32 0, .int .u32 0, .int .u32 0, .int .u32 0, .int .u32 0, .int .u32 0, .int .u32 0, .int .u32 0, .int .i64 0] 63)).alloc (.cells #[.int .u32 0, .int .u32 0, .int .u32 0, .int .u32 0, .int .u32 0, .int .u32 0, .int .u32 0, .int .u32 0, .int .i64 0] 63)) a zs) := hs.below HX0.out
  have HL : Hid (zs.length = n) := hl
  obtain ⟨XS, HX⟩ : ∃ XS, Hid (XS = zs.map (Value.int .u32)) := ⟨_, rfl⟩
  have HXL : Hid (XS.length = n) := (show XS.length = n by rw [HX.out]; simpa using hl)
  have HMN : Hid (n = Nat.min n 8) := (show n = Nat.min n 8 from (Nat.min_eq_left hn).symm)
  have HFT : Hid (0 + n ≤ ([.int .u32 0, .int .u32 0, .int .u32 0, .int .u32 0, .int .u32 0, .int .u32 0, .int .u32 0, .int .u32 0, .int .i64 0] : List Value).length) := (show 0 + n ≤ ([.int .u32 0, .int .u32 0, .int .u32 0, .int .u32 0, .int .u32 0, .int .u32 0, .int .u32 0, .int .u32 0, .int .i64 0] : List Value).length by simp; omega)
  have HQC : Hid ((splice [.int .u32 0, .int .u32 0, .int .u32 0, .int .u32 0, .int .u32 0, .int .u32 0, .int .u32 0, .int .u32 0, .int .i64 0] 0 XS).set 8 (.int .i64 (n : Int)) = (qrw zs).toList) := (show _ = _ by rw [HX.out]; exact qrow_cells zs n hl hn)
  clear hs hl
  obtain ⟨z0, HZ0⟩ : ∃ z, Hid (zs.getD 0 0 = z) := ⟨_, rfl⟩
  obtain ⟨z1, HZ1⟩ : ∃ z, Hid (zs.getD 1 0 = z) := ⟨_, rfl⟩
  obtain ⟨z2, HZ2⟩ : ∃ z, Hid (zs.getD 2 0 = z) := ⟨_, rfl⟩
  obtain ⟨z3, HZ3⟩ : ∃ z, Hid (zs.getD 3 0 = z) := ⟨_, rfl⟩
  obtain ⟨z4, HZ4⟩ : ∃ z, Hid (zs.getD 4 0 = z) := ⟨_, rfl⟩
  obtain ⟨z5, HZ5⟩ : ∃ z, Hid (zs.getD 5 0 = z) := ⟨_, rfl⟩
  obtain ⟨z6, HZ6⟩ : ∃ z, Hid (zs.getD 6 0 = z) := ⟨_, rfl⟩
  obtain ⟨z7, HZ7⟩ : ∃ z, Hid (zs.getD 7 0 = z) := ⟨_, rfl⟩
  rw [show qvl zs = .agg #[.int .u32 z0, .int .u32 z1, .int .u32 z2, .int .u32 z3, .int .u32 z4, .int .u32 z5, .int .u32 z6, .int .u32 z7, .int .i64 (n : Int)] by unfold qvl qrw; rw [HZ0.out, HZ1.out, HZ2.out, HZ3.out, HZ4.out, HZ5.out, HZ6.out, HZ7.out, HL.out]]
  go_enter Try.func58, Try.ntmps58
  go_wp2_with (refine wpList_copy_q rfl (.tmp 6) (.tmp 7) 22 22 rfl 31 Try.underlying22 infoU1 (some ⟨w.heap.size + 1, 0, none⟩) a 8 8 n c rfl rfl (w.heap.size + 1) 0 [.int .u32 0, .int .u32 0, .int .u32 0, .int .u32 0, .int .u32 0, .int .u32 0, .int .u32 0, .int .u32 0, .int .i64 0] 63 HR0.out XS n HXL.out HMN.out (fun h0 => ⟨rfl, by rw [HX.out]; exact copy_src HS.out (by simp [HL.out]; omega)⟩) HFT.out (by rw [HX.out]; exact us_one zs) ?_; intro w3 hr3 hb3; have HR3 : Hid (Row w3 (w.heap.size + 1) 63 (splice [.int .u32 0, .int .u32 0, .int .u32 0, .int .u32 0, .int .u32 0, .int .u32 0, .int .u32 0, .int .u32 0, .int .i64 0] 0 XS)) := hr3; have HB3 : Hid (Betw (w.heap.size + 1) (w.heap.size + 2) ((w.alloc (.cells #[.int .u32 0, .int .u32 0, .int .u32 0, .int .u32 0, .int .u32 0, .int .u32 0, .int .u32 0, .int .u32 0, .int .i64 0] 63)).alloc (.cells #[.int .u32 0, .int .u32 0, .int .u32 0, .int .u32 0, .int .u32 0, .int .u32 0, .int .u32 0, .int .u32 0, .int .i64 0] 63)) w3) := hb3; have hf3 := hr3.free; have hc3 : ∃ u, w3.cell? ⟨w.heap.size + 1, 8, none⟩ = some u := ⟨_, by rw [hr3.cell, List.getElem?_eq_getElem (by have h1 := HXL.out; rw [length_splice _ _ _ (by simp; omega)]; simp)]⟩; obtain ⟨u8, hu8⟩ := hc3; have hr4 := hr3.set 8 (.int .i64 (n : Int)); rw [HQC.out] at hr4; have HK4 : Hid (Bk (w3.setCell ⟨w.heap.size + 1, 8, none⟩ (.int .i64 (n : Int))) w.heap.size #[.int .u32 0, .int .u32 0, .int .u32 0, .int .u32 0, .int .u32 0, .int .u32 0, .int .u32 0, .int .u32 0, .int .i64 0]) := (HKR.out.betw hb3 (by omega)).other _ 8 _ (by omega); have HB4 : Hid (Below w.heap.size w (w3.setCell ⟨w.heap.size + 1, 8, none⟩ (.int .i64 (n : Int)))) := (HX0.out.trans (hb3.below (by omega) HX0.out.size)).setCell (p := ⟨w.heap.size + 1, 8, none⟩) (by simp) _; have d0 : (w3.setCell ⟨w.heap.size + 1, 8, none⟩ (.int .i64 (n : Int))).cell? ⟨w.heap.size + 1, 0, none⟩ = some (.int .u32 z0) := (by rw [hr4.cell]; show some (Value.int .u32 (zs.getD 0 0)) = _; rw [HZ0.out]); have d1 : (w3.setCell ⟨w.heap.size + 1, 8, none⟩ (.int .i64 (n : Int))).cell? ⟨w.heap.size + 1, 1, none⟩ = some (.int .u32 z1) := (by rw [hr4.cell]; show some (Value.int .u32 (zs.getD 1 0)) = _; rw [HZ1.out]); have d2 : (w3.setCell ⟨w.heap.size + 1, 8, none⟩ (.int .i64 (n : Int))).cell? ⟨w.heap.size + 1, 2, none⟩ = some (.int .u32 z2) := (by rw [hr4.cell]; show some (Value.int .u32 (zs.getD 2 0)) = _; rw [HZ2.out]); have d3 : (w3.setCell ⟨w.heap.size + 1, 8, none⟩ (.int .i64 (n : Int))).cell? ⟨w.heap.size + 1, 3, none⟩ = some (.int .u32 z3) := (by rw [hr4.cell]; show some (Value.int .u32 (zs.getD 3 0)) = _; rw [HZ3.out]); have d4 : (w3.setCell ⟨w.heap.size + 1, 8, none⟩ (.int .i64 (n : Int))).cell? ⟨w.heap.size + 1, 4, none⟩ = some (.int .u32 z4) := (by rw [hr4.cell]; show some (Value.int .u32 (zs.getD 4 0)) = _; rw [HZ4.out]); have d5 : (w3.setCell ⟨w.heap.size + 1, 8, none⟩ (.int .i64 (n : Int))).cell? ⟨w.heap.size + 1, 5, none⟩ = some (.int .u32 z5) := (by rw [hr4.cell]; show some (Value.int .u32 (zs.getD 5 0)) = _; rw [HZ5.out]); have d6 : (w3.setCell ⟨w.heap.size + 1, 8, none⟩ (.int .i64 (n : Int))).cell? ⟨w.heap.size + 1, 6, none⟩ = some (.int .u32 z6) := (by rw [hr4.cell]; show some (Value.int .u32 (zs.getD 6 0)) = _; rw [HZ6.out]); have d7 : (w3.setCell ⟨w.heap.size + 1, 8, none⟩ (.int .i64 (n : Int))).cell? ⟨w.heap.size + 1, 7, none⟩ = some (.int .u32 z7) := (by rw [hr4.cell]; show some (Value.int .u32 (zs.getD 7 0)) = _; rw [HZ7.out]); have d8 : (w3.setCell ⟨w.heap.size + 1, 8, none⟩ (.int .i64 (n : Int))).cell? ⟨w.heap.size + 1, 8, none⟩ = some (.int .i64 (n : Int)) := (by rw [hr4.cell]; show some (Value.int .i64 (zs.length : Int)) = _; rw [HL.out]); have k0 := HK4.out.cell 0 _ rfl; have k1 := HK4.out.cell 1 _ rfl; have k2 := HK4.out.cell 2 _ rfl; have k3 := HK4.out.cell 3 _ rfl; have k4 := HK4.out.cell 4 _ rfl; have k5 := HK4.out.cell 5 _ rfl; have k6 := HK4.out.cell 6 _ rfl; have k7 := HK4.out.cell 7 _ rfl; have k8 := HK4.out.cell 8 _ rfl; have kf := HK4.out.free; clear hr3 hb3 hr4)
  have hrow := row9 HK4.out (.int .u32 z0) (.int .u32 z1) (.int .u32 z2) (.int .u32 z3) (.int .u32 z4) (.int .u32 z5) (.int .u32 z6) (.int .u32 z7) (.int .i64 (n : Int))
  have hb9 := HB4.out.trans (hrow.2.below (Nat.le_refl _) HB4.out.size)
  clear d0 d1 d2 d3 d4 d5 d6 d7 d8 k0 k1 k2 k3 k4 k5 k6 k7 k8 kf hf3 hu8
  revert hrow hb9
  generalize ((((((((((w3.setCell ⟨w.heap.size + 1, 8, none⟩ (.int .i64 (n : Int))).setCell ⟨w.heap.size, 0, none⟩ (.int .u32 z0)).setCell ⟨w.heap.size, 1, none⟩ (.int .u32 z1)).setCell ⟨w.heap.size, 2, none⟩ (.int .u32 z2)).setCell ⟨w.heap.size, 3, none⟩ (.int .u32 z3)).setCell ⟨w.heap.size, 4, none⟩ (.int .u32 z4)).setCell ⟨w.heap.size, 5, none⟩ (.int .u32 z5)).setCell ⟨w.heap.size, 6, none⟩ (.int .u32 z6)).setCell ⟨w.heap.size, 7, none⟩ (.int .u32 z7)).setCell ⟨w.heap.size, 8, none⟩ (.int .i64 (n : Int))) = Wf
  intro hrow hb9
  have hk := hrow.1
  have q0 := hk.cell 0 _ rfl
  have q1 := hk.cell 1 _ rfl
  have q2 := hk.cell 2 _ rfl
  have q3 := hk.cell 3 _ rfl
  have q4 := hk.cell 4 _ rfl
  have q5 := hk.cell 5 _ rfl
  have q6 := hk.cell 6 _ rfl
  have q7 := hk.cell 7 _ rfl
  have q8 := hk.cell 8 _ rfl
  exact bodyPost_ret (v := .agg #[.int .u32 z0, .int .u32 z1, .int .u32 z2, .int .u32 z3, .int .u32 z4, .int .u32 z5, .int .u32 z6, .int .u32 z7, .int .i64 (n : Int)]) (by simp [results, Try.results58, go_sem, q0, q1, q2, q3, q4, q5, q6, q7, q8]) rfl ⟨rfl, hb9⟩
end Go.Proofs.Ythfmggfohegpnaa
