/-
  The lines of a cache: what the specification's own function hands back. Conditions: the rows and their ways are at most 1048576 together.
-/
import Derived.Test.YtifgmgehnbkbjaaRows
import Derived.Test.YtifgmgehnbkbjaaLin
import Derived.Test.YtifgmgehnbkbjaaWap
import Derived.Deep.RegionHeldLaw
import Derived.Deep.QuietTactic
import Derived.BigQuiet
namespace Go.Proofs.Ytifgmgehnbkbjaa
open Go.ChangeShapes Go.WideShapes Go.ChangeAt Go.RowKit Go.Deep
set_option linter.unusedVariables false

theorem info3 : (Try.prog.info? 3).map (fun i => (i.zero, i.size, i.bytes)) = some (some (.int .i64 0), 1, 8) := by kernel_rfl
theorem info3' : ∃ i, Try.prog.info? 3 = some i ∧ i.zero = some (.int .i64 0) ∧ i.size = 1 ∧ i.bytes = 8 := by
  obtain ⟨i, hi, h⟩ := Option.map_eq_some_iff.1 info3
  simp only [Prod.mk.injEq] at h
  exact ⟨i, hi, h.1, h.2.1, h.2.2⟩
/-- A list that the call owns, from block 'base' on. -/
def OwnL (w : World) (base : Nat) (v : Value) (zs : List Int) : Prop := w.ownsRow base 3 1 v zs.length (zs.map (Value.int .i64))
theorem OwnL.new (w : World) (B : Nat) (hB : B = w.heap.size) : OwnL (w.alloc (.cells #[] 3)) B (.slice (some ⟨B, 0, none⟩) 0 0) [] := by
  subst hB
  exact ⟨rfl, .inr ⟨w.heap.size, 0, #[], rfl, Nat.le_refl _, by show (w.heap.push _)[w.heap.size]? = _; simp, Nat.le_refl _, by simp, rfl, rfl⟩⟩
theorem OwnL.seg {w : World} {base : Nat} {v : Value} {zs : List Int} (h : OwnL w base v zs) : ∃ a cap, v = .slice a zs.length cap ∧ Seg .i64 w a zs := by
  rcases h.2 with ⟨h0, h1⟩ | ⟨g, cap, cur, rfl, hb, hg, h1, h2, h3, h4⟩
  · exact ⟨none, 0, by rw [h0, h1], fun h => absurd h (by omega)⟩
  · refine ⟨_, _, rfl, fun h0 => ⟨g, 0, rfl, ?_, fun i hi => ?_⟩⟩
    · rcases Nat.lt_or_ge g w.heap.size with hlt | hge
      · exact hlt
      · rw [Array.getElem?_eq_none hge] at hg; cases hg
    · rw [Nat.zero_add]
      have e : cur[i]? = some (.int .i64 (zs.getD i 0)) := by
        have := congrArg (·[i]?) h4
        simp only [Nat.mul_one] at this
        rw [List.getElem?_take, if_pos hi] at this
        simpa [hi, List.getD] using this
      simp [World.cell?, hg, e]
theorem OwnL.below {w w' : World} {base : Nat} {v : Value} {zs : List Int} (h : OwnL w base v zs) (hb : Below w.heap.size w w') : OwnL w' base v zs := ownsRow_below h hb
theorem OwnL.low {w : World} {base b' : Nat} {v : Value} {zs : List Int} (h : OwnL w base v zs) (hle : b' ≤ base) : OwnL w b' v zs := by
  refine ⟨h.1, ?_⟩
  rcases h.2 with hn | ⟨g, cap, cur, e, hb, rest⟩
  · exact .inl hn
  · exact .inr ⟨g, cap, cur, e, by omega, rest⟩
theorem OwnL.snoc {w : World} {base g cap : Nat} {zs : List Int} {r : Int} (h : w.ownsRow base 3 1 (.slice (some ⟨g, 0, none⟩) (zs.length + 1) cap) (zs.length + 1) (zs.map (Value.int .i64) ++ [.int .i64 r])) :
    OwnL w base (.slice (some ⟨g, 0, none⟩) (zs.length + 1) cap) (zs ++ [r]) := by
  unfold OwnL
  simpa using h
theorem OwnL.kept {w w' : World} {base : Nat} {v : Value} {zs : List Int} {row : Option Nat} (h : OwnL w base v zs) (hg : w.grownBy w' row) (hne : ∀ g, v.ownBlock = some g → row ≠ some g) : OwnL w' base v zs :=
  World.ownsRow.kept h hg (by
    cases hv : v.ownBlock with
    | none => exact .inl rfl
    | some g => exact .inr (fun e => hne g hv e.symm))
theorem news_int (w : World) (z : Int) (B : Nat) (hB : B = w.heap.size) : ∀ j u, [Value.int .i64 z][j]? = some u → (w.alloc (.cells #[.int .i64 z] 3)).cell? ((⟨B, 0, none⟩ : Addr).add j) = some u := news_at w _ 3 B hB
theorem one_int (r : Int) : ∀ u ∈ [Value.int .i64 r], u.oneCell' = true := by
  intro u hu
  simp only [List.mem_singleton] at hu
  subst hu
  rfl
theorem news_in {w : World} {z : Int} {B : Nat} (h : w.heap[B]? = some (.cells #[.int .i64 z] 3 (0, 0))) : ∀ j u, [Value.int .i64 z][j]? = some u → w.cell? ((⟨B, 0, none⟩ : Addr).add j) = some u :=
  World.news_of_block (cs := #[.int .i64 z]) (t := 3) (fr := (0, 0)) h
set_option maxHeartbeats 1000000 in
theorem spec_li_no (s y l : Int) (a : Option Addr) (cap n : Nat) (D : Nat → List Wy) (w : World) (hs : RSeg w a n D) (hn : n ≤ 1048576) (ht : tot D n ≤ 1048576) (hq : ¬ CacheOkP s y l n D) :
    Calls Try.prog 35 #[cch s y l (.slice a n cap)] w fun e w' => ∃ v, e = .returned v ∧ OwnL w' w.heap.size v [] ∧ Below w.heap.size w w' := by
  have hal1 : Below w.heap.size w (w.alloc (.cells #[.int .i64 s, .int .i64 y, .int .i64 l, .slice a n cap] 43)) := (Below.refl _ _).alloc (Nat.le_refl _) _
  have hal := hal1.alloc hal1.size (.cells #[] 3)
  have HC : Hid _ := spec_cachek s y l a cap n D _ (RSeg.below hs hal) hn ht false (by simp [hq])
  have HB0 : Hid _ := hal
  have HO : Hid (OwnL _ _ _ _) := OwnL.new (w.alloc (.cells #[.int .i64 s, .int .i64 y, .int .i64 l, .slice a n cap] 43)) (w.heap.size + 1) (by simp)
  clear hs hal hal1 hq
  go_enter Try.func35, Try.ntmps35
  go_wp2_with fail
  refine Calls.mono HC.out ?_
  rintro u w1 ⟨rfl, hb1⟩
  have HZ : Hid _ := And.intro (OwnL.low (b' := w.heap.size) (OwnL.below HO.out hb1) (by omega)) (HB0.out.trans (hb1.mono HB0.out.size))
  clear hb1
  go_wp2
  go_ret
  exact ⟨_, rfl, HZ.out.1, HZ.out.2⟩
theorem OwnL.blk {w w' : World} {base B : Nat} {v : Value} {zs : List Int} (h : OwnL w base v zs) (hb : Below B w w') (hlt : ∀ g, v.ownBlock = some g → g < B) : OwnL w' base v zs := by
  refine ⟨h.1, ?_⟩
  rcases h.2 with hn | ⟨g, cap, cur, e, hbs, hg, rest⟩
  · exact .inl hn
  · exact .inr ⟨g, cap, cur, e, hbs, by rw [hb.block g (hlt g (by rw [e]; rfl))]; exact hg, rest⟩
theorem Seg.grown {w w' : World} {a : Option Addr} {zs : List Int} {row : Option Nat} (h : Seg .i64 w a zs) (hg : w.grownBy w' row) (hne : ∀ b off, a = some ⟨b, off, none⟩ → row ≠ some b) : Seg .i64 w' a zs := fun h0 => by
  obtain ⟨b, off, e, hlt, hc⟩ := h h0
  have hk := hg.block b hlt (fun c => hne b off e c.symm)
  exact ⟨b, off, e, Nat.lt_of_lt_of_le hlt hg.size, fun i hi => (World.cell?_of_block (a := ⟨b, off + i, none⟩) hk).trans (hc i hi)⟩
theorem grown_cell {X w9 : World} {row : Option Nat} {p : Addr} {v : Value} {lo : Nat} (hg : X.grownBy w9 row) (hlow : ∀ g, row = some g → lo ≤ g) (hp : p.block < lo) (h : X.cell? p = some v) : w9.cell? p = some v := by
  have hk := hg.block p.block (World.block_lt_of_cell? X _ h) (fun e => by have := hlow _ e.symm; omega)
  exact (World.cell?_of_block (a := p) hk).trans h
def slen : Value → Nat
  | .slice _ n _ => n
  | _ => 0
theorem line_wrap {t s r : Int} (ht : 0 ≤ t ∧ t ≤ 65535) (hs : 1 ≤ s ∧ s ≤ 16) (hr : 0 ≤ r ∧ r ≤ 16) : IntKind.i64.wrap (t * s) = t * s ∧ IntKind.i64.wrap (t * s + r) = t * s + r := by
  have m1 : 0 ≤ t * s := Int.mul_nonneg ht.1 (by omega)
  have m2 : t * s ≤ 65535 * s := Int.mul_le_mul_of_nonneg_right ht.2 (by omega)
  constructor <;> (rw [IntKind.wrap_i64]; omega)
set_option maxHeartbeats 4000000 in
theorem spec_li (n : Nat) (y l : Int) (a : Option Addr) (cap : Nat) (D : Nat → List Wy) (w : World) (hs : RSeg w a n D) (hn : n ≤ 1048576) (ht : tot D n ≤ 1048576) (hq : CacheOkP (n : Int) y l n D) :
    Calls Try.prog 35 #[cch (n : Int) y l (.slice a n cap)] w fun e w' => ∃ v, e = .returned v ∧ OwnL w' w.heap.size v (sortL (allL n D n)) ∧ Below w.heap.size w w' := by
  have hal1 : Below w.heap.size w (w.alloc (.cells #[.int .i64 n, .int .i64 y, .int .i64 l, .slice a n cap] 43)) := (Below.refl _ _).alloc (Nat.le_refl _) _
  have hal := hal1.alloc hal1.size (.cells #[] 3)
  have HC : Hid _ := spec_cachek (n : Int) y l a cap n D _ (RSeg.below hs hal) hn ht true (by simp [hq])
  have HB0 : Hid _ := hal
  have HO : Hid (OwnL _ _ _ _) := OwnL.new (w.alloc (.cells #[.int .i64 n, .int .i64 y, .int .i64 l, .slice a n cap] 43)) (w.heap.size + 1) (by simp)
  have hn16 : n ≤ 16 := by have := (shapeOk_parts hq.1).1; omega
  have hn1 : 1 ≤ n := by have := (shapeOk_parts hq.1).1; omega
  have HOK : Hid (CacheOkP (n : Int) y l n D) := hq
  have HT : Hid _ := ht
  have HS : Hid _ := hs
  obtain ⟨i3, hi1, hi2, hi3, hi4⟩ := info3'
  have HI : Hid _ := And.intro hi1 (And.intro hi2 (And.intro hi3 hi4))
  clear hs hal hal1 hq ht hi1 hi2 hi3 hi4
  go_enter Try.func35, Try.ntmps35
  go_wp2_with fail
  refine Calls.mono HC.out ?_
  rintro u w1 ⟨rfl, hb1⟩
  have hbw := HB0.out.trans (hb1.mono HB0.out.size)
  have B0 := ((Bk.new w #[.int .i64 n, .int .i64 y, .int .i64 l, .slice a n cap] 43 w.heap.size rfl).alloc (.cells #[] 3)).below hb1
  have hz1 : w.heap.size + 1 < w1.heap.size := by have := hb1.size; simp at this; omega
  have HK : Hid _ := B0.alloc (.cells #[] 3)
  have HB : Hid _ := hbw.alloc hbw.size (.cells #[] 3)
  have HO1 : Hid (OwnL _ _ _ _) := OwnL.below (OwnL.below HO.out hb1) ((Below.refl _ _).alloc (Nat.le_refl _) (.cells #[] 3))
  have HA : Hid (OwnL _ _ _ _) := OwnL.new w1 w1.heap.size rfl
  clear hb1 hbw HC HB0 B0 HO
  go_wp2
  obtain ⟨W1, HW1⟩ : ∃ W, Hid (w1.alloc (.cells #[] 3) = W) := ⟨_, rfl⟩
  rw [HW1.out] at HK HB HO1 HA ⊢
  have hW1 : W1.heap.size = w1.heap.size + 1 := by rw [← HW1.out]; simp
  clear HW1
  go_loopw [4, 5] (fun v i wr => ∃ r : Nat, r ≤ n ∧ i = .int .i64 r ∧ W1.heap.size ≤ wr.heap.size ∧ Hid (Below w1.heap.size W1 wr ∧ OwnL wr w1.heap.size v (allL n D r))) (fun _ i _ => n - (intOf i).toNat)
  case atStart => exact ⟨0, by omega, rfl, Nat.le_refl _, Below.refl _ _, HA.out⟩
  case round =>
    obtain ⟨r, hr, rfl, hsz, HR⟩ := hrel
    obtain ⟨hb, hown⟩ := HR.out
    have hbw : Below w.heap.size w wr := HB.out.trans (hb.mono (by omega))
    have k3 := (hb.cell (p := ⟨w.heap.size, 3, none⟩) (by simp; omega)).trans (HK.out.cell 3 _ rfl)
    by_cases hlt : r < n
    rotate_left
    · obtain rfl : r = n := by omega
      obtain ⟨aA, cA, hvA, hsegA⟩ := OwnL.seg hown
      have hAlow := own_low hown
      have hnd := allL_nodup HOK.out
      have hall := allL_low HOK.out
      have hO := OwnL.blk HO1.out hb (fun g e => by simp only [Value.ownBlock, Option.some.injEq] at e; omega)
      have hN : (allL r D r).length ≤ 1048576 := by rw [allL_len]; exact HT.out
      subst hvA
      have hAl2 : ∀ b off, aA = some ⟨b, off, none⟩ → w1.heap.size ≤ b := fun b off e => hAlow b (by rw [e]; rfl)
      obtain ⟨all, HALL⟩ : ∃ all, Hid (allL r D r = all) := ⟨_, rfl⟩
      rw [HALL.out] at hown hsegA hnd hall hN hAlow
      have HAL : Hid _ := And.intro hnd hall
      have HST : Hid (OwnL wr (w.heap.size + 1) (.slice (some ⟨w.heap.size + 1, 0, none⟩) 0 0) [] ∧ Seg .i64 wr aA all ∧ Below w.heap.size w wr) := ⟨hO, hsegA, hbw⟩
      have HA2 : Hid _ := hAl2
      obtain ⟨N, HN⟩ : ∃ N, Hid (all.length = N) := ⟨_, rfl⟩
      rw [HALL.out, HN.out]
      rw [HN.out] at hN
      clear hown hsegA hnd hall hO hAlow hAl2 hb hbw HR HK HB HO1 HA
      go_wp2
      clear k3
      go_loopw [3] (fun v wr' => ∃ (out : List Int) (ao : Option Addr) (co k : Nat), v = .slice ao k co ∧ k ≤ N ∧ wr.heap.size ≤ wr'.heap.size ∧ Hid (out.length = k ∧ OwnL wr' (w.heap.size + 1) (.slice ao k co) out ∧ Sel all out ∧ Seg .i64 wr' aA all ∧ (∀ b off, aA = some ⟨b, off, none⟩ → (Value.slice ao k co).ownBlock ≠ some b) ∧ Below w.heap.size w wr')) (fun v _ => N - slen v)
      case atStart => exact ⟨[], _, _, 0, rfl, by omega, Nat.le_refl _, rfl, HST.out.1, Sel.nil _, HST.out.2.1, fun b off e c => by have := HA2.out b off e; simp only [Value.ownBlock, Option.some.injEq] at c; omega, HST.out.2.2⟩
      case round =>
        obtain ⟨out, ao, co, k, rfl, hk, hszr, HR⟩ := hrel
        by_cases hkN : k < N
        rotate_left
        · obtain rfl : k = N := by omega
          have HF : Hid _ := HR.out.2.2.1.full HAL.out.1 (HR.out.1.trans HN.out.symm)
          go_wp2
          go_ret
          exact ⟨_, rfl, by rw [HALL.out, ← HF.out]; exact OwnL.low HR.out.2.1 (by omega), HR.out.2.2.2.2.2⟩
        have hkN' : (k : Int) < (N : Int) := by omega
        go_wp2
        go_loopw [7, 8] (fun b i wr'' => ∃ (j m : Nat) (best : Int), j ≤ N ∧ i = .int .i64 j ∧ b = .int .i64 best ∧ wr'' = wr.drewN m ∧ Hid (BestP all out j best)) (fun _ i _ => N - (intOf i).toNat)
        case atStart => exact ⟨0, 0, -1, by omega, rfl, rfl, rfl, BestP.start _ _⟩
        case round =>
          obtain ⟨j, m, best, hj, rfl, rfl, rfl, HBP⟩ := hrel
          by_cases hjN : j < N
          rotate_left
          · obtain rfl : j = N := by omega
            have hw := below_drewN (Below.refl wr.heap.size wr) m
            have hal := hw.alloc hw.size (.cells #[.int .i64 best] 3)
            have hown2 : ((wr.drewN m).alloc (.cells #[.int .i64 best] 3)).ownsRow (w.heap.size + 1) 3 1 (.slice ao k co) out.length (out.map (Value.int .i64)) := OwnL.below HR.out.2.1 hal
            have HZ : Hid (∀ (g cap1 : Nat) (w9 : World), w9.ownsRow (w.heap.size + 1) 3 1 (.slice (some ⟨g, 0, none⟩) (out.length + 1) cap1) (out.length + 1) (out.map (Value.int .i64) ++ [.int .i64 best]) → ((wr.drewN m).alloc (.cells #[.int .i64 best] 3)).grownBy w9 (Value.slice ao k co).ownBlock → ((Value.slice ao k co).ownBlock = some g ∨ g = wr.heap.size + 1) → OwnL w9 (w.heap.size + 1) (.slice (some ⟨g, 0, none⟩) (k + 1) cap1) (out ++ [best]) ∧ Sel all (out ++ [best]) ∧ Seg .i64 w9 aA all ∧ (∀ b off, aA = some ⟨b, off, none⟩ → (Value.slice (some ⟨g, 0, none⟩) (k + 1) cap1).ownBlock ≠ some b) ∧ Below w.heap.size w w9 ∧ wr.heap.size ≤ w9.heap.size) := fun g cap1 w9 h1 h2 h3 => by
              obtain ⟨g1, g2, g3, g4, g5, g6⟩ := HR.out
              have hn := HN.out
              subst hn
              subst g1
              have hlow := own_low g2
              have hb6 := g6.trans (hal.mono g6.size)
              refine ⟨OwnL.snoc h1, g3.step HAL.out.1 hkN HBP.out, Seg.grown (g4.below hal) h2 g5, fun b off e c => ?_, Below.grown hb6 h2 (by have := hb6.size; omega) (fun g e => by have := hlow g e; omega), Nat.le_trans hal.size h2.size⟩
              simp only [Value.ownBlock, Option.some.injEq] at c
              subst c
              rcases h3 with h3 | h3
              · exact g5 g off e h3
              · have hne : 0 < all.length := by omega
                obtain ⟨b', off', e', hlt', _⟩ := g4 hne
                rw [e] at e'
                cases e'
                omega
            have hol : out.length ≤ 1048576 := by rw [HR.out.1]; omega
            have HOL : Hid _ := HR.out.1
            have hwsz : w.heap.size + 1 ≤ wr.heap.size := by omega
            clear hw hal HR HBP
            go_wp2_with (at_builtin; (refine wpList_append_lies _ rfl (.tmp 93) (.tmp 95) 33 rfl (w.heap.size + 1) 3 i3 (.int .i64 0) 1 8 Try.underlying33 HI.out.1 HI.out.2.1 HI.out.2.2.1 HI.out.2.2.2 rfl (by omega) _ _ _ rfl hown2 _ 1 1 [.int .i64 best] rfl rfl (news_int _ _ _ (by simp)) (one_int _) (by omega) (by unfold maxLen; omega) (by omega) (by simp; omega) (wr.heap.size + 1) (by simp) ?_; intro g cap1 w9 hown1 hgrow hat hlt1; have HY : Hid _ := HZ.out g cap1 w9 hown1 hgrow hat; clear hown1 hgrow hat hlt1; rw [HOL.out]))
            go_roundw
            case rel => exact ⟨out ++ [best], _, _, k + 1, rfl, by omega, by have := HY.out.2.2.2.2.2; omega, by simp [HOL.out], HY.out.1, HY.out.2.1, HY.out.2.2.1, HY.out.2.2.2.1, HY.out.2.2.2.2.1⟩
            case measure => simp [slen]; omega
          have hjN' : (j : Int) < (N : Int) := by omega
          have hjl : j < all.length := by rw [HN.out]; exact hjN
          obtain ⟨bA, oA, rfl, hblA, cj⟩ := HR.out.2.2.2.1.at j hjl
          have hx0 : 0 ≤ all.getD j 0 := (HAL.out.2 _ (getD_mem all j hjl)).1
          have HTK : Hid (Cand out (all.getD j 0) → (best < 0 ∨ all.getD j 0 < best) → BestP all out (j + 1) (all.getD j 0)) := fun h1 h2 => BestP.take HBP.out hjl hx0 h1 h2
          have HSK : Hid ((Cand out (all.getD j 0) → 0 ≤ best ∧ best ≤ all.getD j 0) → BestP all out (j + 1) best) := fun h => BestP.skip HBP.out h
          generalize all.getD j 0 = x at cj hx0 HTK HSK
          clear hblA
          cases k with
          | zero =>
            have HC : Hid (Cand out x) := by
              have : out = [] := List.eq_nil_of_length_eq_zero HR.out.1
              subst this
              intro z hz
              cases hz
            by_cases hb0 : best < 0
            · have hb0' : decide (best < 0) = true := decide_eq_true hb0
              have HB2 : Hid (BestP all out (j + 1) x) := HTK.out HC.out (.inl hb0)
              go_wp2
              go_quiet (fail)
              go_wp2
              go_roundw
              case rel => first | exact ⟨j + 1, _, x, by omega, by go_num, rfl, rfl, HB2⟩ | exact ⟨_, _, _, _, _, _, _, _, _, _, _, _, _, _, _, _, _, _, _, _, _, _, _, _, _, _, _, _, _, _, _, _, _, _, _, _, _, _, _, _, ⟨j + 1, _, x, by omega, by go_num, rfl, rfl, HB2⟩, rfl⟩
              case measure => simp [intOf]; omega
            have hb0' : decide (best < 0) = false := decide_eq_false hb0
            by_cases hxb : x < best
            · have hxb' : decide (x < best) = true := decide_eq_true hxb
              have HB2 : Hid (BestP all out (j + 1) x) := HTK.out HC.out (.inr hxb)
              go_wp2
              go_quiet (fail)
              go_wp2
              go_roundw
              case rel => first | exact ⟨j + 1, _, x, by omega, by go_num, rfl, rfl, HB2⟩ | exact ⟨_, _, _, _, _, _, _, _, _, _, _, _, _, _, _, _, _, _, _, _, _, _, _, _, _, _, _, _, _, _, _, _, _, _, _, _, _, _, _, _, ⟨j + 1, _, x, by omega, by go_num, rfl, rfl, HB2⟩, rfl⟩
              case measure => simp [intOf]; omega
            have hxb' : decide (x < best) = false := decide_eq_false hxb
            have HB2 : Hid (BestP all out (j + 1) best) := HSK.out (fun _ => ⟨by omega, by omega⟩)
            go_wp2
            go_quiet (fail)
            go_wp2
            go_roundw
            case rel => first | exact ⟨j + 1, _, best, by omega, by go_num, rfl, rfl, HB2⟩ | exact ⟨_, _, _, _, _, _, _, _, _, _, _, _, _, _, _, _, _, _, _, _, _, _, _, _, _, _, _, _, _, _, _, _, _, _, _, _, _, _, _, _, ⟨j + 1, _, best, by omega, by go_num, rfl, rfl, HB2⟩, rfl⟩
            case measure => simp [intOf]; omega
          | succ k =>
            have hk0 : (((k + 1 : Nat) : Int) == 0) = false := by simp; omega
            have hk0' : (((k : Nat) : Int) + 1 == 0) = false := by simp; omega
            have hk1 : IntKind.i64.wrap (((k + 1 : Nat) : Int) - 1) = (k : Int) := by rw [IntKind.wrap_i64]; omega
            have hk2 : IntKind.i64.wrap (((k : Nat) : Int) + 1 - 1) = (k : Int) := by rw [IntKind.wrap_i64]; omega
            obtain ⟨ao', co', eo, hsego⟩ := OwnL.seg HR.out.2.1
            rw [HR.out.1] at eo
            cases eo
            obtain ⟨bO, oO, rfl, hblO, cO⟩ := hsego.at k (by rw [HR.out.1]; omega)
            have HCL : Hid (Cand out x ↔ out.getD k 0 < x) := cand_last HR.out.2.2.1.up k HR.out.1 x
            generalize out.getD k 0 = z at cO HCL
            have hkk : (k : Int) < ((k + 1 : Nat) : Int) := by omega
            clear hsego hblO
            by_cases hz : z < x
            rotate_left
            · have hz' : decide (z < x) = false := decide_eq_false hz
              have HB2 : Hid (BestP all out (j + 1) best) := HSK.out (fun c => absurd (HCL.out.1 c) hz)
              go_wp2
              go_quiet (fail)
              go_wp2
              go_roundw
              case rel => first | exact ⟨j + 1, _, best, by omega, by go_num, rfl, rfl, HB2⟩ | exact ⟨_, _, _, _, _, _, _, _, _, _, _, _, _, _, _, _, _, _, _, _, _, _, _, _, _, _, _, _, _, _, _, _, _, _, _, _, _, _, _, _, ⟨j + 1, _, best, by omega, by go_num, rfl, rfl, HB2⟩, rfl⟩
              case measure => simp [intOf]; omega
            have hz' : decide (z < x) = true := decide_eq_true hz
            by_cases hb0 : best < 0
            · have hb0' : decide (best < 0) = true := decide_eq_true hb0
              have HB2 : Hid (BestP all out (j + 1) x) := HTK.out (HCL.out.2 hz) (.inl hb0)
              go_wp2
              go_quiet (fail)
              go_wp2
              go_roundw
              case rel => first | exact ⟨j + 1, _, x, by omega, by go_num, rfl, rfl, HB2⟩ | exact ⟨_, _, _, _, _, _, _, _, _, _, _, _, _, _, _, _, _, _, _, _, _, _, _, _, _, _, _, _, _, _, _, _, _, _, _, _, _, _, _, _, ⟨j + 1, _, x, by omega, by go_num, rfl, rfl, HB2⟩, rfl⟩
              case measure => simp [intOf]; omega
            have hb0' : decide (best < 0) = false := decide_eq_false hb0
            by_cases hxb : x < best
            · have hxb' : decide (x < best) = true := decide_eq_true hxb
              have HB2 : Hid (BestP all out (j + 1) x) := HTK.out (HCL.out.2 hz) (.inr hxb)
              go_wp2
              go_quiet (fail)
              go_wp2
              go_roundw
              case rel => first | exact ⟨j + 1, _, x, by omega, by go_num, rfl, rfl, HB2⟩ | exact ⟨_, _, _, _, _, _, _, _, _, _, _, _, _, _, _, _, _, _, _, _, _, _, _, _, _, _, _, _, _, _, _, _, _, _, _, _, _, _, _, _, ⟨j + 1, _, x, by omega, by go_num, rfl, rfl, HB2⟩, rfl⟩
              case measure => simp [intOf]; omega
            have hxb' : decide (x < best) = false := decide_eq_false hxb
            have HB2 : Hid (BestP all out (j + 1) best) := HSK.out (fun _ => ⟨by omega, by omega⟩)
            go_wp2
            go_quiet (fail)
            go_wp2
            go_roundw
            case rel => first | exact ⟨j + 1, _, best, by omega, by go_num, rfl, rfl, HB2⟩ | exact ⟨_, _, _, _, _, _, _, _, _, _, _, _, _, _, _, _, _, _, _, _, _, _, _, _, _, _, _, _, _, _, _, _, _, _, _, _, _, _, _, _, ⟨j + 1, _, best, by omega, by go_num, rfl, rfl, HB2⟩, rfl⟩
            case measure => simp [intOf]; omega
    have hlt' : (r : Int) < (n : Int) := by omega
    obtain ⟨b1, o1, a1, c1, rfl, hbl1, e1, s1⟩ := RSeg.at (w := w) HS.out r hlt
    have HE1 : Hid _ := And.intro hbl1 e1
    have hlen : (D r).length ≤ 1048576 := Nat.le_trans (tot_row D hlt) HT.out
    have HX : Hid _ := s1
    have hal : (allL n D r).length + (D r).length ≤ 1048576 := by rw [allL_len]; have := tot_mono D (show r + 1 ≤ n by omega); simp only [tot] at this; have := HT.out; omega
    have HNX : Hid (allL n D (r + 1) = allL n D r ++ rowL n (D r) r (D r).length) := rfl
    have HG : Hid (∀ i, i < (D r).length → 0 ≤ tg (D r) i ∧ tg (D r) i ≤ 65535) := fun i hi => ((HOK.out.2.2 r hlt).2 i hi).1
    have HV : Hid (OwnL wr w1.heap.size u4 (allL n D r)) := hown
    generalize D r = ws at HX HE1 hlen HNX hal HG
    generalize allL n D r = zs at HNX hal HV
    replace e1 := kept_cell hbw HE1.out.2
    clear s1 hbl1 hown HR
    obtain ⟨len, Hlen⟩ : ∃ len, Hid (ws.length = len) := ⟨_, rfl⟩
    rw [Hlen.out] at e1 HE1 hlen hal
    have HBR : Hid _ := hb
    clear hb hbw
    go_wp2
    clear k3 e1
    go_loopw [4, 6] (fun v i wr' => ∃ j : Nat, j ≤ len ∧ i = .int .i64 j ∧ W1.heap.size ≤ wr'.heap.size ∧ Hid (Below w1.heap.size W1 wr' ∧ OwnL wr' w1.heap.size v (zs ++ rowL n ws r j))) (fun _ i _ => len - (intOf i).toNat)
    case atStart => exact ⟨0, by omega, rfl, hsz, HBR.out, by simpa [rowL] using HV.out⟩
    case round =>
      obtain ⟨j, hj, rfl, hsz2, HR2⟩ := hrel
      clear HBR HV hsz
      obtain ⟨hb, hown⟩ := HR2.out
      have hbw : Below w.heap.size w wr := HB.out.trans (hb.mono (by omega))
      have k3 := (hb.cell (p := ⟨w.heap.size, 3, none⟩) (by simp; omega)).trans (HK.out.cell 3 _ rfl)
      have k0 := (hb.cell (p := ⟨w.heap.size, 0, none⟩) (by simp; omega)).trans (HK.out.cell 0 _ rfl)
      have e1 := kept_cell hbw HE1.out.2
      by_cases hjl : j < len
      rotate_left
      · obtain rfl : j = len := by omega
        have HF : Hid (OwnL wr w1.heap.size u4 (allL n D (r + 1))) := by rw [HNX.out, Hlen.out]; exact hown
        have HF2 : Hid _ := hb
        clear hb hown hbw HR2
        go_wp2
        go_roundw
        case rel => exact ⟨r + 1, by omega, by go_num, hsz2, HF2.out, HF.out⟩
        case measure => simp [intOf]; omega
      have hjl' : (j : Int) < (len : Int) := by omega
      obtain ⟨b2, o2, rfl, hbl2, c2, d2⟩ := WSeg.at (w := w) HX.out j (by rw [Hlen.out]; exact hjl)
      replace c2 := kept_cell hbw c2
      change _ = some (Value.int .i64 (tg ws j)) at c2
      have htg := HG.out j (by rw [Hlen.out]; exact hjl)
      obtain ⟨hw1, hw2⟩ := line_wrap (s := (n : Int)) (r := (r : Int)) htg ⟨by omega, by omega⟩ ⟨by omega, by omega⟩
      have HS2 : Hid (zs ++ rowL n ws r (j + 1) = (zs ++ rowL n ws r j) ++ [tg ws j * (n : Int) + (r : Int)]) := by show _ = _; rw [rowL_succ, List.append_assoc]
      have hyl : (zs ++ rowL n ws r j).length ≤ 1048576 := by simp [rowL_len]; omega
      generalize tg ws j = t at c2 hw1 hw2 HS2 htg
      generalize zs ++ rowL n ws r j = ys at hown HS2 hyl
      have hlow := own_low hown
      have HL : Hid _ := hlow
      have HOW : Hid (OwnL wr w1.heap.size u4 ys) := hown
      have HBB : Hid _ := hb
      have hB1 := HE1.out.1
      clear d2 hb HR2 hlow hbw hown
      have hown2 : (wr.alloc (.cells #[.int .i64 (t * (n : Int) + (r : Int))] 3)).ownsRow w1.heap.size 3 1 u4 ys.length (ys.map (Value.int .i64)) := World.ownsRow.alloc HOW.out _
      go_wp2
      go_region_held_law (fun w' => w'.cell? ⟨w.heap.size, 3, none⟩ = some (.slice (some ⟨b1, o1, none⟩) n cap) ∧ w'.cell? ⟨b1, o1 + r, none⟩ = some (.slice (some ⟨b2, o2, none⟩) len c1) ∧ w'.cell? ⟨b2, o2 + j * 2, none⟩ = some (.int .i64 t) ∧ w'.cell? ⟨w.heap.size, 0, none⟩ = some (.int .i64 n)) (first | exact ⟨k3, e1, c2, k0⟩ | exact ⟨cell_alloc_l _ k3, cell_alloc_l _ e1, cell_alloc_l _ c2, cell_alloc_l _ k0⟩)
        (first | (refine step_append_lies _ rfl (.tmp 32) (.tmp 48) 33 rfl w1.heap.size 3 i3 (.int .i64 0) 1 8 Try.underlying33 HI.out.1 HI.out.2.1 HI.out.2.2.1 HI.out.2.2.2 rfl (by omega) u4 ys.length (ys.map (Value.int .i64)) rfl hown2 ⟨wr.heap.size, 0, none⟩ 1 1 [.int .i64 (t * (n : Int) + (r : Int))] rfl rfl (news_int wr _ _ rfl) (one_int _) (by omega) (by unfold maxLen; omega) (by omega) (by simp; omega) _ rfl ?_; intro g cap1 w9 hown1 hgrow hat hlt1; have HY : Hid _ := And.intro hown1 hgrow; replace k3 := grown_cell hgrow HL.out (by simp; omega) (cell_alloc_l _ k3); replace e1 := grown_cell hgrow HL.out (by simp; omega) (cell_alloc_l _ e1); replace c2 := grown_cell hgrow HL.out (by simp; omega) (cell_alloc_l _ c2); replace k0 := grown_cell hgrow HL.out (by simp; omega) (cell_alloc_l _ k0); clear hown1 hgrow hat hlt1))
      have HZ : Hid (Below w1.heap.size W1 w9 ∧ OwnL w9 w1.heap.size (.slice (some ⟨g, 0, none⟩) (ys.length + 1) cap1) (zs ++ rowL n ws r (j + 1)) ∧ W1.heap.size ≤ w9.heap.size) := by
        obtain ⟨hown1, hgrow⟩ := HY.out
        have hb1 := HBB.out.alloc (by have := HBB.out.size; omega) (.cells #[.int .i64 (t * (n : Int) + (r : Int))] 3)
        exact ⟨Below.grown hb1.drew hgrow (by have := hb1.size; show _ ≤ (wr.alloc _).heap.size; omega) HL.out, by rw [HS2.out]; exact OwnL.snoc hown1, Nat.le_trans hb1.size hgrow.size⟩
      clear HY HBB HOW hown2 k3 e1 c2 k0
      go_wp2
      go_roundw
      case rel => exact ⟨j + 1, by omega, by go_num, HZ.out.2.2, HZ.out.1, HZ.out.2.1⟩
      case measure => simp [intOf]; omega
end Go.Proofs.Ytifgmgehnbkbjaa
