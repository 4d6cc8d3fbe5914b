
/-
  Many uses of a table of pages, one after another: the program's own function. Conditions: the addresses read as integers, at most 1048576 of them.
-/
import Derived.Test.YtdjfijkgmeapdaaProg
import Derived.Test.YtdjfijkgmeapdaaTus
import Derived.Test.YtdjfijkgmeapdaaBls
namespace Go.Proofs.Ytdjfijkgmeapdaa
open Go.ChangeShapes Go.WideShapes Go.ChangeAt Go.RowKit Go.Deep
set_option linter.unusedVariables false

def pgZ (zs : List Int) (k : Nat) : Int := (((zs.getD k 0).toNat / 64 : Nat) : Int)
def runT (s : Int) (zs : List Int) : Nat → List Int
  | 0 => []
  | k + 1 => useU s (runT s zs k) (pgZ zs k)
def hitsT (s : Int) (zs : List Int) (k : Nat) : List Bool := (List.range k).map fun j => (runT s zs j).contains (pgZ zs j)
theorem hitsT_succ (s : Int) (zs : List Int) (k : Nat) : hitsT s zs (k + 1) = hitsT s zs k ++ [(runT s zs k).contains (pgZ zs k)] := by
  simp [hitsT, List.range_succ]
theorem hitsT_len (s : Int) (zs : List Int) (k : Nat) : (hitsT s zs k).length = k := by simp [hitsT]
theorem runT_len {s : Int} (zs : List Int) (h : 1 ≤ s) (k : Nat) : ((runT s zs k).length : Int) ≤ s := by
  induction k with
  | zero => simp [runT]; omega
  | succ k ih =>
    rcases useU_len (x := pgZ zs k) ih with g | g
    · exact g
    · omega
def RunP (s : Int) (n : Nat) (zs : List Int) : Prop := inr s 1 8 = true ∧ n ≤ 2000 ∧ ∀ i, i < n → inr (zs.getD i 0) 0 65535 = true
/-- A list of truth values is handed back, in memory of the call's own. -/
def BPost (X : World) (bs : List Bool) (e : Ending) (w' : World) : Prop :=
  ∃ v, e = .returned v ∧ Below X.heap.size X w' ∧ OwnB w' X.heap.size v bs
theorem OwnB.two {w w' : World} {B M base : Nat} {v : Value} {bs : List Bool} (h : OwnB w base v bs) (ht : Two B M w w') (hB : B < base) (hM : M < base) : OwnB w' base v bs := by
  refine ⟨h.1, ?_⟩
  rcases h.2 with hn | ⟨g, cap, cur, e, hbs, hg, rest⟩
  · exact .inl hn
  · have hlt : g < w.heap.size := by
      rcases Nat.lt_or_ge g w.heap.size with hlt | hge
      · exact hlt
      · rw [Array.getElem?_eq_none hge] at hg; cases hg
    exact .inr ⟨g, cap, cur, e, hbs, by rw [ht.block g hlt (by omega) (by omega)]; exact hg, rest⟩
theorem Rg.grown {w w' : World} {B M lo : Nat} {s : Int} {o : Nat} {ps : Nat → Int} {L : List Int} {row : Option Nat} (h : Rg w B M s o ps L) (hg : w.grownBy w' row) (hr : ∀ g, row = some g → lo ≤ g) (hB : B < lo) (hM : M < lo) : Rg w' B M s o ps L :=
  h.same hg.size (hg.block B h.lt (fun e => by have := hr B e.symm; omega)) (hg.block M h.set.lt (fun e => by have := hr M e.symm; omega))
set_option maxHeartbeats 2000000 in
theorem impl_run (s : Int) (a : Option Addr) (cap n : Nat) (zs : List Int) (w : World) (hs : Seg .i64 w a zs) (hl : zs.length = n) (hn : n ≤ 1048576) (bs : List Bool) (hy : RunP s n zs → bs = hitsT s zs n) (hno : ¬ RunP s n zs → bs = []) :
    Calls Try.prog 6 #[.int .i64 s, .slice a n cap] w (BPost w bs) := by
  have HS : Hid (Seg .i64 w a zs) := hs
  have HL : Hid _ := hl
  have HY : Hid (RunP s n zs → bs = hitsT s zs n) := hy
  have HNO : Hid (¬ RunP s n zs → bs = []) := hno
  have HB0 : Hid (∀ cs T, Below w.heap.size w (w.alloc (.cells cs T))) := fun cs T => (Below.refl _ _).alloc (Nat.le_refl _) _
  have HE0 : Hid (OwnB (w.alloc (.cells #[] 4)) w.heap.size (.slice (some ⟨w.heap.size, 0, none⟩) 0 0) []) := OwnB.new w _ rfl
  clear hs hl hy hno
  obtain ⟨sz, HSZ⟩ : ∃ sz, Hid (inr s 1 8 = sz) := ⟨_, rfl⟩
  go_enter Try.func6, Try.ntmps6
  go_wp2_with fail
  refine (size_any s _).mono ?_
  rintro u w1 ⟨rfl, rfl⟩
  rw [HSZ.out]
  cases sz
  · have HF : Hid (bs = []) := HNO.out (fun h => by have h1 := h.1; rw [HSZ.out] at h1; cases h1)
    go_wp2
    go_ret
    exact ⟨_, rfl, HB0.out _ _, by rw [HF.out]; exact HE0.out⟩
  by_cases hn2 : n ≤ 2000
  rotate_left
  · have hgt : (2000 : Int) < (n : Int) := by omega
    have HF : Hid (bs = []) := HNO.out (fun h => hn2 h.2.1)
    go_wp2
    go_ret
    exact ⟨_, rfl, HB0.out _ _, by rw [HF.out]; exact HE0.out⟩
  have hngt : ¬ ((2000 : Int) < (n : Int)) := by omega
  go_wp2_with fail
  refine Calls.mono (ring_of s (some ⟨w1.heap.size, 0, none⟩) 0 0 [] _ (fun h => absurd h (by simp)) rfl (of_inr HSZ.out) (by have := of_inr HSZ.out; omega) List.nodup_nil (by simp)) ?_
  rintro u w2 ⟨rfl, ⟨o2, ps2, hr2⟩, hb2⟩
  have hz : (w1.alloc (.cells #[] 3)).heap.size = w1.heap.size + 1 := by simp
  rw [hz] at hr2 hb2 ⊢
  have hbw2 : Below w1.heap.size w1 w2 := (HB0.out #[] 3).trans (hb2.mono (by omega))
  have hlt2 : w1.heap.size + 1 + 1 < w2.heap.size := hr2.lt
  have hal : Below w2.heap.size w2 (w2.alloc (.cells #[] 4)) := (Below.refl _ _).alloc (Nat.le_refl _) _
  have HI : Hid (Below w1.heap.size w1 (w2.alloc (.cells #[] 4)) ∧ (∃ o ps, Rg (w2.alloc (.cells #[] 4)) (w1.heap.size + 1 + 1) (w1.heap.size + 1) s o ps []) ∧ OwnB (w2.alloc (.cells #[] 4)) w2.heap.size (.slice (some ⟨w2.heap.size, 0, none⟩) 0 0) []) := ⟨hbw2.trans (hal.mono hbw2.size), ⟨_, _, hr2.below hal⟩, OwnB.new w2 _ rfl⟩
  have HLT : Hid _ := hlt2
  clear hr2 hb2 hbw2 hal hz hlt2
  obtain ⟨i4, hi1, hi2, hi3, hi4⟩ := info4'
  have HIN : Hid _ := And.intro hi1 (And.intro hi2 (And.intro hi3 hi4))
  clear hi1 hi2 hi3 hi4
  go_wp2
  obtain ⟨w3, HW3⟩ : ∃ w3, Hid (w3 = w2.alloc (.cells #[] 4)) := ⟨_, rfl⟩
  rw [← HW3.out] at HI ⊢
  go_loopw [6, 24] (fun v i wr => ∃ k : Nat, k ≤ n ∧ i = .int .i64 k ∧ Hid ((∀ j, j < k → inr (zs.getD j 0) 0 65535 = true) ∧ Below w1.heap.size w1 wr ∧ (∃ o ps, Rg wr (w1.heap.size + 1 + 1) (w1.heap.size + 1) s o ps (runT s zs k)) ∧ OwnB wr w2.heap.size v (hitsT s zs k) ∧ w2.heap.size ≤ wr.heap.size)) (fun _ i _ => n - (intOf i).toNat)
  case atStart => exact ⟨0, by omega, rfl, fun j hj => absurd hj (by omega), HI.out.1, HI.out.2.1, HI.out.2.2, by rw [HW3.out]; simp⟩
  case round =>
    obtain ⟨k, hk, rfl, HR⟩ := hrel
    clear HI HW3
    by_cases hlt : k < n
    rotate_left
    · obtain rfl : k = n := by omega
      have HF : Hid (bs = hitsT s zs k) := HY.out ⟨HSZ.out, hn2, HR.out.1⟩
      go_wp2
      go_ret
      exact ⟨_, rfl, HR.out.2.1, by rw [HF.out]; exact OwnB.low HR.out.2.2.2.1 (by have := HLT.out; omega)⟩
    have hlt' : (k : Int) < (n : Int) := by omega
    obtain ⟨b1, o1, rfl, hbl1, e1⟩ := Seg.at (w := w1) HS.out k (by rw [HL.out]; exact hlt)
    replace e1 := kept_cell' HR.out.2.1 hbl1 e1
    obtain ⟨za, HZA⟩ : ∃ za, Hid (inr (zs.getD k 0) 0 65535 = za) := ⟨_, rfl⟩
    have HRT : Hid (runT s zs (k + 1) = useU s (runT s zs k) (pgZ zs k)) := rfl
    have HHT : Hid _ := hitsT_succ s zs k
    have HHL : Hid _ := hitsT_len s zs k
    have HPZ : Hid (pgZ zs k = (((zs.getD k 0).toNat / 64 : Nat) : Int)) := rfl
    have HST : Hid (inr (zs.getD k 0) 0 65535 = true → ∀ j, j < k + 1 → inr (zs.getD j 0) 0 65535 = true) := fun h j hj => by
      by_cases e : j = k
      · subst e; exact h
      · exact HR.out.1 j (by omega)
    have HFN : Hid (inr (zs.getD k 0) 0 65535 = false → bs = []) := fun h => HNO.out (fun g => by have := g.2.2 k hlt; rw [h] at this; cases this)
    generalize zs.getD k 0 = z at e1 HZA HPZ HST HFN
    clear hbl1
    go_wp2_with fail
    refine (addr_any z _).mono ?_
    rintro u w4 ⟨rfl, rfl⟩
    rw [HZA.out]
    cases za
    · have HF : Hid (bs = []) := HFN.out HZA.out
      have HE : Hid (Below w1.heap.size w1 (w4.alloc (.cells #[] 4)) ∧ OwnB (w4.alloc (.cells #[] 4)) w1.heap.size (.slice (some ⟨w4.heap.size, 0, none⟩) 0 0) []) := ⟨HR.out.2.1.alloc HR.out.2.1.size _, OwnB.low (OwnB.new w4 _ rfl) HR.out.2.1.size⟩
      go_wp2
      go_ret
      exact ⟨_, rfl, HE.out.1, by rw [HF.out]; exact HE.out.2⟩
    obtain ⟨m, rfl⟩ : ∃ m : Nat, z = (m : Int) := ⟨z.toNat, by have := of_inr HZA.out; omega⟩
    have HM : Hid (m ≤ 65535) := by have := of_inr HZA.out; show _ ≤ _; omega
    obtain ⟨p, HP⟩ : ∃ p : Nat, Hid (m / 64 = p) := ⟨_, rfl⟩
    have HPZ2 : Hid (pgZ zs k = (p : Int)) := by rw [HPZ.out, ← HP.out]; rfl
    rw [HPZ2.out] at HRT HHT
    clear HPZ HPZ2 HFN
    generalize runT s zs k = L at HR HRT HHT
    generalize hitsT s zs k = hs at HR HHT HHL
    clear e1
    go_wp2_with fail
    refine Calls.mono (page_any m _ HM.out) ?_
    rintro u w5 ⟨rfl, rfl⟩
    rw [HP.out]
    go_wp2_with fail
    obtain ⟨_, hbw, ⟨o5, ps5, hr5⟩, hown5, hle5⟩ := HR.out
    refine Calls.mono (use_any _ _ s (p : Int) o5 ps5 L _ hr5 (by rw [← HP.out]; exact page_ok HM.out)) ?_
    rintro u w6 ⟨rfl, ⟨o6, ps6, hr6⟩, ht6⟩
    have hlt2 := HLT.out
    have hbw6 : Below w1.heap.size w1 w6 := hbw.trans (ht6.below hbw.size (by omega) (by omega))
    have hown6 : OwnB w6 w2.heap.size u6 hs := OwnB.two hown5 ht6 (by omega) (by omega)
    have hle6 : w2.heap.size ≤ w6.heap.size := Nat.le_trans hle5 ht6.size
    have HST2 : Hid _ := HST.out HZA.out
    obtain ⟨qh, HQH⟩ : ∃ qh, Hid (L.contains (p : Int) = qh) := ⟨_, rfl⟩
    rw [HQH.out] at HHT ⊢
    rw [← HRT.out] at hr6
    have hown7 : (w6.alloc (.cells #[.bool qh] 4)).ownsRow w2.heap.size 4 1 u6 hs.length (hs.map Value.bool) := World.ownsRow.alloc hown6 _
    have hlow := own_low hown6
    have hal : Below w6.heap.size w6 (w6.alloc (.cells #[.bool qh] 4)) := (Below.refl _ _).alloc (Nat.le_refl _) _
    have HZ : Hid (∀ (gg cap1 : Nat) (w9 : World), w9.ownsRow w2.heap.size 4 1 (.slice (some ⟨gg, 0, none⟩) (hs.length + 1) cap1) (hs.length + 1) (hs.map Value.bool ++ [.bool qh]) → (w6.alloc (.cells #[.bool qh] 4)).grownBy w9 u6.ownBlock → Below w1.heap.size w1 w9 ∧ (∃ o ps, Rg w9 (w1.heap.size + 1 + 1) (w1.heap.size + 1) s o ps (runT s zs (k + 1))) ∧ OwnB w9 w2.heap.size (.slice (some ⟨gg, 0, none⟩) (hs.length + 1) cap1) (hitsT s zs (k + 1)) ∧ w2.heap.size ≤ w9.heap.size) := fun gg cap1 w9 h1 h2 => by
      have hb7 := hbw6.trans (hal.mono hbw6.size)
      refine ⟨Below.grown hb7 h2 hb7.size (fun g e => by have := hlow g e; omega), ⟨_, _, Rg.grown (hr6.below hal) h2 hlow (by omega) (by omega)⟩, ?_, Nat.le_trans hle6 (Nat.le_trans hal.size h2.size)⟩
      rw [HHT.out]
      exact OwnB.snoc h1
    have hhl : hs.length = k := HHL.out
    have hHL : Hid (hs.length ≤ 2000) := by show _ ≤ _; omega
    have HBS : Hid (w2.heap.size ≤ (w6.alloc (.cells #[.bool qh] 4)).heap.size) := by show _ ≤ _; simp; omega
    clear hhl hbw hr5 hown5 hle5 hr6 ht6 hbw6 hown6 hle6 hlow hal HR HRT hlt2
    have hsl := hHL.out
    go_wp2_with (at_builtin; (refine wpList_append_lies _ rfl (.tmp 32) (.tmp 37) 27 rfl w2.heap.size 4 i4 (.bool false) 1 1 Try.underlying27 HIN.out.1 HIN.out.2.1 HIN.out.2.2.1 HIN.out.2.2.2 rfl (by omega) _ _ _ rfl hown7 _ 1 1 [.bool qh] rfl rfl (news_bool _ _ _ (by simp)) (one_bool _) (by omega) (by unfold maxLen; omega) (by omega) HBS.out _ rfl ?_; intro gg cap1 w9 hown1 hgrow hat hlt1; have HYY : Hid _ := HZ.out gg cap1 w9 hown1 hgrow; clear hown1 hgrow hat hlt1))
    go_roundw
    case rel => exact ⟨k + 1, by omega, by go_num, HST2.out, HYY.out.1, HYY.out.2.1, HYY.out.2.2.1, HYY.out.2.2.2⟩
    case measure => simp [intOf]; omega
end Go.Proofs.Ytdjfijkgmeapdaa
