
/-
  The program's copies of lists of words, by copy: in memory of their own. Conditions: the words read as words, at most 1048576 of them.
-/
import Derived.Test.YtobgaakcinjnaaaProg
import Derived.Test.YtobgaakcinjnaaaChn
import Derived.Test.YtobgaakcinjnaaaChl
import Derived.Laws.CopyOwn
import Derived.OwnWalk
namespace Go.Proofs.Ytobgaakcinjnaaa
open Go.ChangeShapes Go.WideShapes Go.ChangeAt Go.RowKit Go.Deep
set_option linter.unusedVariables false

theorem row_full {w : World} {B g n : Nat} {xs : List Value} (h : w.ownsRow B 33 1 (.slice (some ⟨g, 0, none⟩) n n) n xs) : ∃ cur : List Value, w.heap[g]? = some (.cells cur.toArray 33 (0, 0)) ∧ cur.length = n := by
  rcases h.2 with ⟨h0, _⟩ | ⟨g', cap, cur, e, hb, hg, h1, h2, h3, h4⟩
  · cases h0
  · injection e with e1 e2 e3
    injection e1 with e1
    injection e1 with e1
    subst e1 e3
    exact ⟨cur.toList, by rw [hg], by simpa using h3⟩
theorem full_own {w : World} {B g n : Nat} {zs : List Int} (hB : B ≤ g) (hl : zs.length = n) (hn : n ≤ 2097152) (h : w.heap[g]? = some (.cells (zs.map (Value.int .u32)).toArray 33 (0, 0))) : OwnU w B (.slice (some ⟨g, 0, none⟩) n n) zs := by
  subst hl
  refine ⟨by simp, .inr ⟨g, zs.length, _, rfl, hB, h, Nat.le_refl _, ?_, by simp, by rw [Nat.mul_one]; exact List.take_of_length_le (by simp)⟩⟩
  have : maxLen = 9223372036854775807 := rfl
  omega
theorem infoU1 : (Try.prog.info? 33).map (·.size) = some 1 := by kernel_rfl
theorem splice_all {α : Type} (L cs : List α) (h : cs.length = L.length) : splice L 0 cs = cs := by
  unfold splice
  rw [List.take_zero, List.nil_append, List.drop_eq_nil_of_le (by omega), List.append_nil]
theorem splice_two {α : Type} (L X Y : List α) (k : Nat) (hk : X.length = k) (h : L.length = k + Y.length) : splice (splice L 0 X) k Y = X ++ Y := by
  subst hk
  unfold splice
  simp
  omega
theorem copy_src {w : World} {a : Option Addr} {zs : List Int} (hs : Seg .u32 w a zs) (h0 : 0 < (zs.map (Value.int .u32)).length) : ∃ ad, a = some ad ∧ ∀ j v, (zs.map (Value.int .u32))[j]? = some v → w.cell? (ad.add j) = some v := by
  obtain ⟨b, off, e, hlt, hc⟩ := hs (by simpa using h0)
  exact ⟨_, e, news_us hc⟩
set_option maxRecDepth 20000 in
set_option maxHeartbeats 2000000 in
theorem impl_copied (a : Option Addr) (n c : Nat) (zs : List Int) (w : World) (hs : Seg .u32 w a zs) (hl : zs.length = n) (hn : n ≤ 1048576) :
    Calls Try.prog 24 #[.slice a n c] w fun e w' => ∃ g, e = .returned (.slice (some ⟨g, 0, none⟩) n n) ∧ Below w.heap.size w w' ∧ OwnU w' w.heap.size (.slice (some ⟨g, 0, none⟩) n n) zs := by
  obtain ⟨iW, hi1, hi2, hi3, hi4⟩ := infoU'
  have HI : Hid (Try.prog.info? 33 = some iW ∧ iW.zero = some (.int .u32 0) ∧ iW.size = 1 ∧ iW.bytes * n ≤ 281474976710656) := ⟨hi1, hi2, hi3, by rw [hi4]; omega⟩
  have HS : Hid (Seg .u32 w a zs) := hs
  have HL : Hid (zs.length = n) := hl
  have HML : Hid (n ≤ maxLen) := by have : maxLen = 9223372036854775807 := rfl; show n ≤ maxLen; omega
  obtain ⟨XS, HX⟩ : ∃ XS, Hid (XS = zs.map (Value.int .u32)) := ⟨_, rfl⟩
  have HXL : Hid (XS.length = n) := by rw [HX.out]; show _ = _; simpa using hl
  clear hs hl hi1 hi2 hi3 hi4
  go_enter Try.func24, Try.ntmps24
  go_wp2_with (first
    | (at_make; refine wpList_make_full _ rfl (.tmp 5) (.tmp 5) 26 rfl w.heap.size 33 iW (.int .u32 0) 1 Try.underlying26 HI.out.1 HI.out.2.1 HI.out.2.2.1 .i64 .i64 n n n rfl rfl rfl rfl HI.out.2.2.2 HML.out (Nat.le_refl _) ?_; intro w1 ho1 hg1; have HB1 : Hid (Below w.heap.size w w1) := Below.grown (Below.refl _ w) hg1 (Nat.le_refl _) (fun g e => by cases e); obtain ⟨cur, hcur, hcl⟩ := row_full ho1; have HC : Hid (w1.heap[w.heap.size]? = some (.cells cur.toArray 33 (0, 0)) ∧ cur.length = n) := ⟨hcur, hcl⟩; have HS1 : Hid (Seg .u32 w1 a zs) := HS.out.below HB1.out; clear ho1 hg1 hcur hcl)
    | (refine wpList_copy_splice rfl (.tmp 7) (.tmp 8) 26 26 rfl 33 Try.underlying26 infoU1 _ _ n n n c rfl rfl w.heap.size 0 cur 33 HC.out.1 XS (by rw [HXL.out]; exact (Nat.min_self n).symm) (fun h0 => ⟨rfl, by rw [HX.out] at h0 ⊢; exact copy_src HS1.out h0⟩) (by rw [HXL.out, HC.out.2]; omega) (by rw [HX.out]; exact us_one zs) w.heap.size w HB1.out (Nat.le_refl _) ?_; intro w2 HG2 hB2; have HB2 : Hid (Below w.heap.size w w2) := hB2; clear hB2))
  go_ret
  refine ⟨_, rfl, HB2.out, full_own (Nat.le_refl _) HL.out (by omega) ?_⟩
  rw [HG2.out, splice_all _ _ (by rw [HXL.out, HC.out.2]), HX.out]
set_option maxRecDepth 20000 in
set_option maxHeartbeats 2000000 in
theorem impl_joined (a : Option Addr) (n c : Nat) (b : Option Addr) (m cb : Nat) (zs ys : List Int) (w : World) (hs : Seg .u32 w a zs) (hl : zs.length = n) (hn : n ≤ 1048576) (hsb : Seg .u32 w b ys) (hlb : ys.length = m) (hm : m ≤ 1048576) :
    Calls Try.prog 40 #[.slice a n c, .slice b m cb] w fun e w' => ∃ g, e = .returned (.slice (some ⟨g, 0, none⟩) (n + m) (n + m)) ∧ Below w.heap.size w w' ∧ OwnU w' w.heap.size (.slice (some ⟨g, 0, none⟩) (n + m) (n + m)) (zs ++ ys) := by
  obtain ⟨iW, hi1, hi2, hi3, hi4⟩ := infoU'
  obtain ⟨N, HN⟩ : ∃ N, Hid (n + m = N) := ⟨_, rfl⟩
  have hN : N ≤ 2097152 := by have := HN.out; omega
  have HI : Hid (Try.prog.info? 33 = some iW ∧ iW.zero = some (.int .u32 0) ∧ iW.size = 1 ∧ iW.bytes * N ≤ 281474976710656) := ⟨hi1, hi2, hi3, by rw [hi4]; omega⟩
  have HS : Hid (Seg .u32 w a zs) := hs
  have HL : Hid (zs.length = n) := hl
  have HSb : Hid (Seg .u32 w b ys) := hsb
  have HLb : Hid (ys.length = m) := hlb
  have HML : Hid (N ≤ maxLen) := by have : maxLen = 9223372036854775807 := rfl; show N ≤ maxLen; omega
  obtain ⟨XS, HX⟩ : ∃ XS, Hid (XS = zs.map (Value.int .u32)) := ⟨_, rfl⟩
  have HXL : Hid (XS.length = n) := by rw [HX.out]; show _ = _; simpa using hl
  obtain ⟨YS, HY⟩ : ∃ YS, Hid (YS = ys.map (Value.int .u32)) := ⟨_, rfl⟩
  have HYL : Hid (YS.length = m) := by rw [HY.out]; show _ = _; simpa using hlb
  have hw : IntKind.i64.wrap ((n : Int) + (m : Int)) = (N : Int) := by have := HN.out; rw [IntKind.wrap_i64]; omega
  have hnN : n ≤ N := by have := HN.out; omega
  rw [HN.out]
  clear hs hl hsb hlb hi1 hi2 hi3 hi4
  go_enter Try.func40, Try.ntmps40
  go_wp2_with (first
    | (at_make; refine wpList_make_full _ rfl (.tmp 10) (.tmp 10) 26 rfl w.heap.size 33 iW (.int .u32 0) 1 Try.underlying26 HI.out.1 HI.out.2.1 HI.out.2.2.1 .i64 .i64 N N N rfl rfl rfl rfl HI.out.2.2.2 HML.out (Nat.le_refl _) ?_; intro w1 ho1 hg1; have HB1 : Hid (Below w.heap.size w w1) := Below.grown (Below.refl _ w) hg1 (Nat.le_refl _) (fun g e => by cases e); obtain ⟨cur, hcur, hcl⟩ := row_full ho1; have HC : Hid (w1.heap[w.heap.size]? = some (.cells cur.toArray 33 (0, 0)) ∧ cur.length = N) := ⟨hcur, hcl⟩; have HS1 : Hid (Seg .u32 w1 a zs) := HS.out.below HB1.out; clear ho1 hg1 hcur hcl)
    | (refine wpList_copy_splice rfl (.tmp 13) (.tmp 14) 26 26 rfl 33 Try.underlying26 infoU1 _ _ N N n c rfl rfl w.heap.size 0 cur 33 HC.out.1 XS (by rw [HXL.out]; exact (Nat.min_eq_left hnN).symm) (fun h0 => ⟨rfl, by rw [HX.out] at h0 ⊢; exact copy_src HS1.out h0⟩) (by rw [HXL.out, HC.out.2]; omega) (by rw [HX.out]; exact us_one zs) w.heap.size w HB1.out (Nat.le_refl _) ?_; intro w2 HG2 hB2; have HB2 : Hid (Below w.heap.size w w2) := hB2; have HS2 : Hid (Seg .u32 w2 b ys) := HSb.out.below HB2.out; rw [HXL.out]; clear hB2)
    | (refine wpList_copy_splice rfl (.tmp 16) (.tmp 17) 26 26 rfl 33 Try.underlying26 infoU1 _ b (N - n) (N - n) m cb rfl rfl w.heap.size n (splice cur 0 XS) 33 HG2.out YS (by rw [HYL.out]; have := HN.out; exact (Nat.min_eq_left (by omega)).symm) (fun h0 => ⟨if_neg (by have := HN.out; rw [HYL.out] at h0; omega), by rw [HY.out] at h0 ⊢; exact copy_src HS2.out h0⟩) (by rw [HYL.out, length_splice _ _ _ (by rw [HXL.out, HC.out.2]; omega), HC.out.2]; have := HN.out; omega) (by rw [HY.out]; exact us_one ys) w.heap.size w HB2.out (Nat.le_refl _) ?_; intro w3 HG3 hB3; have HB3 : Hid (Below w.heap.size w w3) := hB3; clear hB3))
  all_goals
    go_ret
    refine ⟨_, rfl, HB3.out, full_own (Nat.le_refl _) (by have := HN.out; simp [HL.out, HLb.out]; omega) (by omega) ?_⟩
    rw [HG3.out, splice_two _ _ _ n HXL.out (by rw [HC.out.2, HYL.out]; exact HN.out.symm), HX.out, HY.out, List.map_append]
end Go.Proofs.Ytobgaakcinjnaaa
