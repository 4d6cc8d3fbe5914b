
/-
  What lies in memory while the law FnPages is walked; numbers looked for in a list; two lists held against each other. Conditions: those that each fact names.
-/
import Derived.Test.YtdjfijkgmeapdaaProg
import Derived.Test.YtdjfijkgmeapdaaFpd
import Derived.Test.YtdjfijkgmeapdaaFpp
import Derived.Test.YtdjfijkgmeapdaaTrs
import Derived.Test.YtdjfijkgmeapdaaTus
import Derived.Test.YtdjfijkgmeapdaaRgi
import Derived.Test.YtdjfijkgmeapdaaAlk
import Derived.Deep.QuietTactic
namespace Go.Proofs.Ytdjfijkgmeapdaa
open Go.ChangeShapes Go.WideShapes Go.ChangeAt Go.RowKit Go.Deep
set_option linter.unusedVariables false

theorem big_no (a : Option Addr) (n cap : Nat) (w : World) (h : n ≤ 1048576) : Calls Try.prog 4 #[.slice a n cap] w fun e w' => e = .returned (.bool false) ∧ w' = w := by
  have h2 : ¬ (1048576 : Int) < (n : Int) := by omega
  go_enter Try.func4, Try.ntmps4
  go_wp2
  go_ret
  exact ⟨rfl, rfl⟩
theorem big_yes (a : Option Addr) (n cap : Nat) (w : World) (h : ¬ n ≤ 1048576) : Calls Try.prog 4 #[.slice a n cap] w fun e w' => e = .returned (.bool true) ∧ w' = w := by
  have h2 : (1048576 : Int) < (n : Int) := by omega
  go_enter Try.func4, Try.ntmps4
  go_wp2
  go_ret
  exact ⟨rfl, rfl⟩
theorem mem_of_getD {zs : List Int} {k : Nat} {x : Int} (hk : k < zs.length) (h : x = zs.getD k 0) : zs.contains x = true := by
  subst h
  exact List.contains_iff_mem.2 (getD_mem zs k hk)
theorem not_mem_of {zs : List Int} {x : Int} (h : ∀ j, j < zs.length → zs.getD j 0 ≠ x) : zs.contains x = false := by
  rw [Bool.eq_false_iff]
  intro c
  obtain ⟨j, hj, e⟩ := List.mem_iff_getElem.1 (List.contains_iff_mem.1 c)
  exact h j hj (by simp [List.getD, hj, e])
set_option maxHeartbeats 400000 in
theorem law_has (a : Option Addr) (cap n : Nat) (zs : List Int) (x : Int) (w : World) (hs : Seg .i64 w a zs) (hnz : zs.length = n) (hn : n ≤ 1048576) :
    Calls Try.prog 9 #[.slice a n cap, .int .i64 x] w fun e w' => e = .returned (.bool (zs.contains x)) ∧ w' = w := by
  have Hn : Hid _ := hnz
  obtain ⟨q, HQ⟩ : ∃ q, Hid (zs.contains x = q) := ⟨_, rfl⟩
  rw [HQ.out]
  clear hnz
  go_enter Try.func9, Try.ntmps9
  go_wp2
  go_loopw [5] (fun i wr => ∃ k : Nat, k ≤ n ∧ i = .int .i64 k ∧ wr = w ∧ Hid (∀ j, j < k → zs.getD j 0 ≠ x)) (fun i _ => n - (intOf i).toNat)
  case atStart => exact ⟨0, by omega, rfl, rfl, fun j hj => absurd hj (by omega)⟩
  case round =>
    obtain ⟨k, hk, rfl, rfl, HJ⟩ := hrel
    by_cases hlt : k < n
    · have hl : k < zs.length := by rw [Hn.out]; exact hlt
      have hlt' : (k : Int) < (n : Int) := by omega
      obtain ⟨b1, o1, rfl, hbl1, hc1⟩ := hs.at k hl
      have HM : Hid (x = zs.getD k 0 → q = true) := fun e => HQ.out.symm.trans (mem_of_getD hl e)
      have HS : Hid (zs.getD k 0 ≠ x → ∀ j, j < k + 1 → zs.getD j 0 ≠ x) := fun g j hj => by
        by_cases e : j = k
        · subst e; exact g
        · exact HJ.out j (by omega)
      generalize zs.getD k 0 = z at hc1 HM HS
      clear hs hl hbl1
      by_cases hx : z = x
      · have hx' : (z == x) = true := by simpa using hx
        have HT : Hid (q = true) := HM.out hx.symm
        clear hx HM HS HJ
        go_wp2
        go_ret
        exact ⟨ret_bool HT.out.symm, rfl⟩
      · have hx' : (z == x) = false := by simpa using hx
        have HT := HS.out hx
        replace HT : Hid (∀ j, j < k + 1 → zs.getD j 0 ≠ x) := HT
        clear hx HM HS HJ
        go_wp2
        go_roundw
        case rel => exact ⟨k + 1, by omega, by go_num, trivial, HT⟩
        case measure => simp [intOf]; omega
    · go_wp2
      go_ret
      exact ⟨ret_bool (by rw [← HQ.out, not_mem_of (fun j hj => HJ.out j (by have := Hn.out; omega))]), rfl⟩
set_option maxHeartbeats 2000000 in
theorem same_ints (a b : Option Addr) (ca cb n : Nat) (xs : List Int) (w : World) (ha : Seg .i64 w a xs) (hb : Seg .i64 w b xs) (hl : xs.length = n) (hn : n ≤ 1048576) :
    Calls Try.prog 11 #[.slice a n ca, .slice b n cb] w fun e w' => e = .returned (.bool true) ∧ Below w.heap.size w w' := by
  have HA : Hid (Seg .i64 w a xs ∧ Seg .i64 w b xs) := And.intro ha hb
  clear ha hb
  have hnn : ((n : Int) != (n : Int)) = false := by simp
  go_enter Try.func11, Try.ntmps11
  go_wp2
  go_loopw [5] (fun i wr => ∃ j k : Nat, k ≤ n ∧ i = .int .i64 k ∧ wr = w.drewN j) (fun i _ => n - (intOf i).toNat)
  case atStart => exact ⟨0, 0, by omega, rfl, rfl⟩
  case round =>
    obtain ⟨j, k, hk, rfl, rfl⟩ := hrel
    by_cases hlt : k < n
    · have hlt' : (k : Int) < (n : Int) := by omega
      obtain ⟨b1, o1, rfl, hb1, h1⟩ := HA.out.1 (by omega)
      obtain ⟨b2, o2, rfl, hb2, h2⟩ := HA.out.2 (by omega)
      have c1 := h1 k (by omega)
      have c2 := h2 k (by omega)
      generalize xs.getD k 0 = x at c1 c2
      have hxx : (x != x) = false := by simp
      clear h1 h2
      go_wp2
      go_quiet (fail)
      go_wp2
      go_roundw
      case rel => exact ⟨_, k + 1, by omega, by go_num, rfl⟩
      case measure => simp [intOf]; omega
    · go_wp2
      go_ret
      exact ⟨rfl, ⟨rfl, rfl, rfl, Nat.le_refl _, fun _ _ => rfl⟩⟩
theorem SegI.grown {w w' : World} {a : Option Addr} {zs : List Int} {row : Option Nat} (h : Seg .i64 w a zs) (hg : w.grownBy w' row) (hne : ∀ b off, a = some ⟨b, off, none⟩ → 0 < zs.length → row ≠ some b) : Seg .i64 w' a zs := fun h0 => by
  obtain ⟨b, off, e, hlt, hc⟩ := h h0
  have hk := hg.block b hlt (fun c => hne b off e h0 c.symm)
  exact ⟨b, off, e, Nat.lt_of_lt_of_le hlt hg.size, fun i hi => (World.cell?_of_block (a := ⟨b, off + i, none⟩) hk).trans (hc i hi)⟩
theorem BSeg.grown {w w' : World} {a : Option Addr} {bs : List Bool} {row : Option Nat} (h : BSeg w a bs) (hg : w.grownBy w' row) (hne : ∀ b off, a = some ⟨b, off, none⟩ → 0 < bs.length → row ≠ some b) : BSeg w' a bs := fun h0 => by
  obtain ⟨b, off, e, hlt, hc⟩ := h h0
  have hk := hg.block b hlt (fun c => hne b off e h0 c.symm)
  exact ⟨b, off, e, Nat.lt_of_lt_of_le hlt hg.size, fun i hi => (World.cell?_of_block (a := ⟨b, off + i, none⟩) hk).trans (hc i hi)⟩
theorem BSeg.below {w w' : World} {a : Option Addr} {bs : List Bool} (h : BSeg w a bs) (hb : Below w.heap.size w w') : BSeg w' a bs := fun h0 => by
  obtain ⟨b, off, e, hlt, hc⟩ := h h0
  exact ⟨b, off, e, Nat.lt_of_lt_of_le hlt hb.size, fun i hi => (hb.cell (p := ⟨b, off + i, none⟩) hlt).trans (hc i hi)⟩
theorem SegI.far {w : World} {a : Option Addr} {zs : List Int} {Y j : Nat} {u : Value} (h : Seg .i64 w a zs) (hne : ∀ b off, a = some ⟨b, off, none⟩ → 0 < zs.length → b ≠ Y) : Seg .i64 (w.setCell ⟨Y, j, none⟩ u) a zs := fun h0 => by
  obtain ⟨b, off, e, hlt, hc⟩ := h h0
  exact ⟨b, off, e, by simpa using hlt, fun i hi => by rw [World.cell?_setCell_other _ _ _ _ (by intro c; injection c with c1 c2 c3; exact hne b off e h0 c1.symm)]; exact hc i hi⟩
theorem BSeg.far {w : World} {a : Option Addr} {bs : List Bool} {Y j : Nat} {u : Value} (h : BSeg w a bs) (hne : ∀ b off, a = some ⟨b, off, none⟩ → 0 < bs.length → b ≠ Y) : BSeg (w.setCell ⟨Y, j, none⟩ u) a bs := fun h0 => by
  obtain ⟨b, off, e, hlt, hc⟩ := h h0
  exact ⟨b, off, e, by simpa using hlt, fun i hi => by rw [World.cell?_setCell_other _ _ _ _ (by intro c; injection c with c1 c2 c3; exact hne b off e h0 c1.symm)]; exact hc i hi⟩
/-- What stands in the law's loop. -/
structure FP (w0 W : World) (T7 base : Nat) (s : Int) (zs : List Int) (bs : List Bool) (ga aa : Option Addr) (v : Value) (k : Nat) (ps : List Int) (ta : Option Addr) (tn tc : Nat) : Prop where
  bel : Below w0.heap.size w0 W
  got : BSeg W ga bs
  glt : ∀ b off, ga = some ⟨b, off, none⟩ → 0 < bs.length → b < base
  adr : Seg .i64 W aa zs
  alt : ∀ b off, aa = some ⟨b, off, none⟩ → 0 < zs.length → b < base
  own : OwnL W base v ps
  nv : v ≠ .slice none 0 0
  box : Bk W T7 #[.int .i64 s, .slice ta tn tc]
  b7 : base < T7
  po : ∀ g, v.ownBlock = some g → g ≠ T7
  tl : (runT s zs k).length = tn
  tc' : tn ≤ tc
  ts : Seg .i64 W ta (runT s zs k)
  tp : ∀ b off, ta = some ⟨b, off, none⟩ → 0 < (runT s zs k).length → b ≠ T7 ∧ ∀ g, v.ownBlock = some g → g ≠ b
  ls : base ≤ W.heap.size
  le : w0.heap.size ≤ base
theorem FP.below {w0 W : World} {T7 base : Nat} {s : Int} {zs : List Int} {bs : List Bool} {ga aa : Option Addr} {v : Value} {k : Nat} {ps : List Int} {ta : Option Addr} {tn tc : Nat} {X : World} (h : FP w0 W T7 base s zs bs ga aa v k ps ta tn tc) (hb : Below W.heap.size W X) : FP w0 X T7 base s zs bs ga aa v k ps ta tn tc :=
  ⟨h.bel.trans (hb.mono h.bel.size), h.got.below hb, h.glt, h.adr.below hb, h.alt, h.own.below hb, h.nv, h.box.below hb, h.b7, h.po, h.tl, h.tc', h.ts.below hb, h.tp, Nat.le_trans h.ls hb.size, h.le⟩
theorem FP.grow {w0 W : World} {T7 base : Nat} {s : Int} {zs : List Int} {bs : List Bool} {ga aa : Option Addr} {v : Value} {k : Nat} {ps : List Int} {ta : Option Addr} {tn tc : Nat} {YA w9 : World} {gg n c : Nat} {ps2 : List Int} (h : FP w0 W T7 base s zs bs ga aa v k ps ta tn tc) (hal : Below W.heap.size W YA) (g2 : YA.grownBy w9 v.ownBlock) (ho : OwnL w9 base (.slice (some ⟨gg, 0, none⟩) n c) ps2) (hat : v.ownBlock = some gg ∨ gg = YA.heap.size) :
    FP w0 w9 T7 base s zs bs ga aa (.slice (some ⟨gg, 0, none⟩) n c) k ps2 ta tn tc := by
  have hA := h.below hal
  have hlt := hA.own.lt
  have hsz := hal.size
  have h7 := h.box.lt
  have hts : ∀ b off, ta = some ⟨b, off, none⟩ → 0 < (runT s zs k).length → b < W.heap.size := fun b off e h0 => by
    obtain ⟨b', off', e', hl, _⟩ := h.ts h0
    rw [e] at e'
    injection e' with e'
    injection e' with e1
    omega
  refine ⟨hA.bel.trans (Below.grown (Below.refl _ _) g2 (Nat.le_trans hA.le hA.ls) (fun g e => Nat.le_trans hA.le (hlt g e).1)), BSeg.grown hA.got g2 (fun b off e h0 c => by have := h.glt b off e h0; have := (hlt b c).1; omega), h.glt, SegI.grown hA.adr g2 (fun b off e h0 c => by have := h.alt b off e h0; have := (hlt b c).1; omega), h.alt, ho, by simp, Bk.grownNe hA.box g2 (fun c => h.po T7 c rfl), h.b7, fun g e => ?_, h.tl, h.tc', SegI.grown hA.ts g2 (fun b off e h0 c => (h.tp b off e h0).2 b c rfl), fun b off e h0 => ⟨(h.tp b off e h0).1, fun g eg => ?_⟩, Nat.le_trans hA.ls g2.size, h.le⟩
  · have eq : gg = g := by have : some gg = some g := e; injection this
    subst eq
    rcases hat with e | e
    · exact h.po gg e
    · omega
  · have eq : gg = g := by have : some gg = some g := eg; injection this
    subst eq
    rcases hat with e' | e'
    · exact (h.tp b off e h0).2 gg e'
    · have := hts b off e h0; omega
/-- The table's room is laid anew: the next round begins. -/
theorem FP.next {w0 W : World} {T7 base : Nat} {s : Int} {zs : List Int} {bs : List Bool} {ga aa : Option Addr} {v : Value} {k : Nat} {ps : List Int} {ta : Option Addr} {tn tc : Nat} {X : World} {v' : Value} {g nn nc : Nat} (h : FP w0 W T7 base s zs bs ga aa v k ps ta tn tc) (hX : Below W.heap.size W X) (hg : W.heap.size ≤ g) (hn : (runT s zs (k + 1)).length = nn) (hnc : nn ≤ nc) (hs : OwnL X W.heap.size (.slice (some ⟨g, 0, none⟩) nn nc) (runT s zs (k + 1))) :
    FP w0 ((X.setCell ⟨T7, 0, none⟩ (.int .i64 s)).setCell ⟨T7, 1, none⟩ (.slice (some ⟨g, 0, none⟩) nn nc)) T7 base s zs bs ga aa v (k + 1) ps (some ⟨g, 0, none⟩) nn nc := by
  have hx := h.below hX
  have h7 := h.box.lt
  have hb7 := h.b7
  have hle := h.le
  have hls := h.ls
  have hseg : Seg .i64 X (some ⟨g, 0, none⟩) (runT s zs (k + 1)) := by
    obtain ⟨a', c', e, hs'⟩ := hs.seg
    injection e with e1 e2 e3
    rw [e1]; exact hs'
  have hvlt := h.own.lt
  have hvx : ∀ gq, v.ownBlock = some gq → gq < W.heap.size := fun gq e => (hvlt gq e).2
  refine ⟨(hx.bel.setCell (p := ⟨T7, 0, none⟩) (show w0.heap.size ≤ T7 by omega) _).setCell (p := ⟨T7, 1, none⟩) (show w0.heap.size ≤ T7 by omega) _, BSeg.far (BSeg.far hx.got (fun b off e h0 => by have := h.glt b off e h0; omega)) (fun b off e h0 => by have := h.glt b off e h0; omega), h.glt, SegI.far (SegI.far hx.adr (fun b off e h0 => by have := h.alt b off e h0; omega)) (fun b off e h0 => by have := h.alt b off e h0; omega), h.alt, OwnL.set (OwnL.set hx.own h.po) h.po, h.nv, (hx.box.set 0 (.int .i64 s) (by simp) (cs' := #[.int .i64 s, .slice ta tn tc]) rfl).set 1 (.slice (some ⟨g, 0, none⟩) nn nc) (by simp) rfl, h.b7, h.po, hn, hnc, SegI.far (SegI.far hseg (fun b off e h0 => by injection e with e; injection e with e1; omega)) (fun b off e h0 => by injection e with e; injection e with e1; omega), fun b off e h0 => ?_, by rw [nblk_setCell, nblk_setCell]; exact hx.ls, h.le⟩
  injection e with e
  injection e with e1
  exact ⟨by omega, fun gq eq => by have := hvx gq eq; omega⟩
end Go.Proofs.Ytdjfijkgmeapdaa
