
/-
  The program's SendOn: what the plain functions say, in memory of its own. Conditions: the words read as words, at most 1048576 of them.
-/
import Derived.Test.YtobgaakcinjnaaaProg
import Derived.Test.YtobgaakcinjnaaaChs
import Derived.Test.YtobgaakcinjnaaaChk
namespace Go.Proofs.Ytobgaakcinjnaaa
open Go.ChangeShapes Go.WideShapes Go.ChangeAt Go.RowKit Go.Deep
set_option linter.unusedVariables false

theorem lit_own {w : World} (z : Int) : OwnU (w.alloc (.cells #[.int .u32 z] 33)) w.heap.size (.slice (some ⟨w.heap.size, 0, none⟩) 1 1) [z] :=
  full_own (zs := [z]) (Nat.le_refl _) rfl (by omega) (by show (w.heap.push _)[w.heap.size]? = _; simp)
theorem OwnU.seg' {w : World} {base n c : Nat} {a : Option Addr} {zs : List Int} (h : OwnU w base (.slice a n c) zs) : Seg .u32 w a zs := by
  obtain ⟨a', cap, e, g⟩ := h.seg
  injection e with e1 e2 e3
  subst e1
  exact g
set_option maxRecDepth 20000 in
set_option maxHeartbeats 4000000 in
theorem impl_sent (k f t d h x : Int) (a : Option Addr) (n c : Nat) (zs : List Int) (ys : List Int) (w : World) (hs : Seg .u32 w a zs) (hl : zs.length = n) (hn : n ≤ 1048576) (HY : Hid ((if k = 1 then zs ++ [x] else [x]) = ys)) :
    Calls Try.prog 25 #[ssd k f t d h a n c, .int .u32 x] w fun e w' => ∃ a' c', e = .returned (oen h a' ys.length c') ∧ Below w.heap.size w w' ∧ OE w' w.heap.size w'.heap.size a' ys := by
  have HB : Hid (Below w.heap.size w ((w.alloc (.cells (ssr k f t d h a n c) 52)).alloc (.cells (orow 0 none 0 0) 28))) := ((Below.refl _ w).alloc (Nat.le_refl _) _).alloc (by simp) _
  have HK : Hid (Bk ((w.alloc (.cells (ssr k f t d h a n c) 52)).alloc (.cells (orow 0 none 0 0) 28)) w.heap.size (ssr k f t d h a n c) ∧ Bk ((w.alloc (.cells (ssr k f t d h a n c) 52)).alloc (.cells (orow 0 none 0 0) 28)) (w.heap.size + 1) (orow 0 none 0 0)) := ⟨(Bk.new w _ _ _ rfl).alloc _, Bk.new _ _ _ _ (by simp)⟩
  have HS : Hid (Seg .u32 w a zs) := hs
  have HL : Hid (zs.length = n) := hl
  clear hs hl
  obtain ⟨q, HQ⟩ : ∃ q, Hid ((k == 1) = q) := ⟨_, rfl⟩
  go_enter Try.func25, Try.ntmps25
  go_wp2_with fail
  refine (impl_queues k f t d q _ HQ.out).mono ?_
  rintro y w1 ⟨rfl, hb1⟩
  have HB1 : Hid (Below w.heap.size w w1) := HB.out.trans (hb1.mono HB.out.size)
  have K1 : Hid (Bk w1 w.heap.size (ssr k f t d h a n c) ∧ Bk w1 (w.heap.size + 1) (orow 0 none 0 0)) := ⟨HK.out.1.below hb1, HK.out.2.below hb1⟩
  clear hb1 HB HK
  have hz1 := K1.out.2.lt
  have hb : Below w1.heap.size w1 w1 := Below.refl _ _
  have C0 : Hid (w1.cell? ⟨w.heap.size, 0, none⟩ = some (.int .i64 k)) := K1.out.1.cell 0 _ rfl
  have c0 := C0.out
  have C1 : Hid (w1.cell? ⟨w.heap.size, 1, none⟩ = some (.int .i64 f)) := K1.out.1.cell 1 _ rfl
  have c1 := C1.out
  have C2 : Hid (w1.cell? ⟨w.heap.size, 2, none⟩ = some (.int .i64 t)) := K1.out.1.cell 2 _ rfl
  have c2 := C2.out
  have C3 : Hid (w1.cell? ⟨w.heap.size, 3, none⟩ = some (.int .i64 d)) := K1.out.1.cell 3 _ rfl
  have c3 := C3.out
  have C4 : Hid (w1.cell? ⟨w.heap.size, 4, none⟩ = some (.int .i64 h)) := K1.out.1.cell 4 _ rfl
  have c4 := C4.out
  have C5 : Hid (w1.cell? ⟨w.heap.size, 5, none⟩ = some (.slice a n c)) := K1.out.1.cell 5 _ rfl
  have c5 := C5.out
  have R0 : Hid (w1.cell? ⟨w.heap.size + 1, 0, none⟩ = some (.int .i64 0)) := K1.out.2.cell 0 _ rfl
  have R1 : Hid (w1.cell? ⟨w.heap.size + 1, 1, none⟩ = some (.slice none 0 0)) := K1.out.2.cell 1 _ rfl
  have r0 := R0.out
  have r1 := R1.out
  have rf := K1.out.2.free
  cases q
  · have hk : ¬ k = 1 := by simpa using HQ.out
    obtain rfl : [x] = ys := by rw [← HY.out, if_neg hk]
    clear HQ hk HY HL HS
    go_wp2_with fail
    refine (impl_with k f t d h a n c _ 1 1 _).mono ?_
    rintro y w2 ⟨rfl, hb2⟩
    have HO : Hid (OE w2 w1.heap.size w2.heap.size (some ⟨w1.heap.size, 0, none⟩) [x]) := by
      obtain ⟨a', c', e', g⟩ := OwnU.oe ((lit_own (w := w1) x).below hb2)
      injection e' with e1 e2 e3
      subst e1
      exact g
    have hbn : Below w1.heap.size w1 w2 := ((Below.refl _ w1).alloc (Nat.le_refl _) _).trans (hb2.mono (by simp))
    have HB2 : Hid (Below w.heap.size w w2) := HB1.out.trans (hbn.mono HB1.out.size)
    have KR : Hid (Bk w2 (w.heap.size + 1) (orow 0 none 0 0)) := K1.out.2.below hbn
    clear r0 r1 rf
    have r0 := KR.out.cell 0 _ rfl
    have r1 := KR.out.cell 1 _ rfl
    have rf := KR.out.free
    have k2 : Bk ((w2.setCell ⟨w.heap.size + 1, 0, none⟩ (.int .i64 h)).setCell ⟨w.heap.size + 1, 1, none⟩ (.slice (some ⟨w1.heap.size, 0, none⟩) 1 1)) (w.heap.size + 1) #[.int .i64 h, .slice (some ⟨w1.heap.size, 0, none⟩) 1 1] := (KR.out.set 0 (.int .i64 h) (by simp) (cs' := #[.int .i64 h, .slice none 0 0]) rfl).set 1 _ (by simp) rfl
    have t2 : Betw (w.heap.size + 1) (w.heap.size + 2) w2 ((w2.setCell ⟨w.heap.size + 1, 0, none⟩ (.int .i64 h)).setCell ⟨w.heap.size + 1, 1, none⟩ (.slice (some ⟨w1.heap.size, 0, none⟩) 1 1)) := ((Betw.refl (w.heap.size + 1) (w.heap.size + 2) w2).setCell (p := ⟨w.heap.size + 1, 0, none⟩) (by simp) (by simp) (.int .i64 h)).setCell (p := ⟨w.heap.size + 1, 1, none⟩) (by simp) (by simp) (.slice (some ⟨w1.heap.size, 0, none⟩) 1 1)
    have x2 : Below w.heap.size w ((w2.setCell ⟨w.heap.size + 1, 0, none⟩ (.int .i64 h)).setCell ⟨w.heap.size + 1, 1, none⟩ (.slice (some ⟨w1.heap.size, 0, none⟩) 1 1)) := HB2.out.trans (t2.below (by omega) HB2.out.size)
    have o2 : OE ((w2.setCell ⟨w.heap.size + 1, 0, none⟩ (.int .i64 h)).setCell ⟨w.heap.size + 1, 1, none⟩ (.slice (some ⟨w1.heap.size, 0, none⟩) 1 1)) w.heap.size ((w2.setCell ⟨w.heap.size + 1, 0, none⟩ (.int .i64 h)).setCell ⟨w.heap.size + 1, 1, none⟩ (.slice (some ⟨w1.heap.size, 0, none⟩) 1 1)).heap.size (some ⟨w1.heap.size, 0, none⟩) [x] := OE.wide (OE.betw HO.out t2 (.inr (by omega))) (by omega) (by simp)
    go_wp2
    clear r0 r1 rf K1 HB1 HB2 KR HO c0 c1 c2 c3 c4 c5 C0 C1 C2 C3 C4 C5 R0 R1 hb t2
    revert k2 x2 o2
    generalize ((w2.setCell ⟨w.heap.size + 1, 0, none⟩ (.int .i64 h)).setCell ⟨w.heap.size + 1, 1, none⟩ (.slice (some ⟨w1.heap.size, 0, none⟩) 1 1)) = Wf
    intro k2 x2 o2
    have q0 := k2.cell 0 _ rfl
    have q1 := k2.cell 1 _ rfl
    refine bodyPost_ret (v := .agg #[.int .i64 h, .slice (some ⟨w1.heap.size, 0, none⟩) 1 1]) (by simp [results, Try.results25, go_sem, q0, q1]) rfl ?_
    exact ⟨_, _, rfl, x2, o2⟩
  · have hk : k = 1 := by simpa using HQ.out
    obtain rfl : zs ++ [x] = ys := by rw [← HY.out, if_pos hk]
    clear HQ hk HY
    have JN : Hid (∀ X aX, Below w1.heap.size w1 X → Seg .u32 X aX [x] → Calls Try.prog 40 #[.slice a n c, .slice aX 1 1] X fun e w' => ∃ g, e = .returned (.slice (some ⟨g, 0, none⟩) (n + 1) (n + 1)) ∧ Below X.heap.size X w' ∧ OE w' X.heap.size w'.heap.size (some ⟨g, 0, none⟩) (zs ++ [x])) := fun X aX hX hx => by
      refine (impl_joined a n c aX 1 1 zs [x] X (HS.out.below (HB1.out.trans (hX.mono HB1.out.size))) HL.out hn hx rfl (by omega)).mono ?_
      rintro e w' ⟨g, h1, h2, h3⟩
      obtain ⟨a', c', e', g'⟩ := OwnU.oe h3
      injection e' with e1 e2 e3
      subst e1
      exact ⟨g, h1, h2, g'⟩
    have WT : Hid (∀ X g, Calls Try.prog 23 #[ssd k f t d h a n c, .slice (some ⟨g, 0, none⟩) (n + 1) (n + 1)] X fun e w' => e = .returned (oen h (some ⟨g, 0, none⟩) (n + 1) (n + 1)) ∧ Below X.heap.size X w') := fun X g => impl_with k f t d h a n c _ _ _ X
    have hl9 : Hid ((zs ++ [x]).length = n + 1) := by have := HL.out; show _ = _; simp; omega
    clear HS HL
    go_wp2
    go_region_held_law (fun w' => w'.cell? ⟨w.heap.size, 0, none⟩ = some (.int .i64 k) ∧ w'.cell? ⟨w.heap.size, 1, none⟩ = some (.int .i64 f) ∧ w'.cell? ⟨w.heap.size, 2, none⟩ = some (.int .i64 t) ∧ w'.cell? ⟨w.heap.size, 3, none⟩ = some (.int .i64 d) ∧ w'.cell? ⟨w.heap.size, 4, none⟩ = some (.int .i64 h) ∧ w'.cell? ⟨w.heap.size, 5, none⟩ = some (.slice a n c)) (first | with_reducible exact ⟨c0, c1, c2, c3, c4, c5⟩ | with_reducible exact ⟨dr_c c0, dr_c c1, dr_c c2, dr_c c3, dr_c c4, dr_c c5⟩ | with_reducible exact ⟨al_c _ c0, al_c _ c1, al_c _ c2, al_c _ c3, al_c _ c4, al_c _ c5⟩ | with_reducible exact ⟨al_c _ (dr_c c0), al_c _ (dr_c c1), al_c _ (dr_c c2), al_c _ (dr_c c3), al_c _ (dr_c c4), al_c _ (dr_c c5)⟩ | with_reducible exact ⟨dr_c (al_c _ c0), dr_c (al_c _ c1), dr_c (al_c _ c2), dr_c (al_c _ c3), dr_c (al_c _ c4), dr_c (al_c _ c5)⟩ | with_reducible exact ⟨st2 (by omega) c0, st2 (by omega) c1, st2 (by omega) c2, st2 (by omega) c3, st2 (by omega) c4, st2 (by omega) c5⟩ | with_reducible exact ⟨st2 (by omega) (dr_c c0), st2 (by omega) (dr_c c1), st2 (by omega) (dr_c c2), st2 (by omega) (dr_c c3), st2 (by omega) (dr_c c4), st2 (by omega) (dr_c c5)⟩ | with_reducible exact ⟨st1 (by omega) c0, st1 (by omega) c1, st1 (by omega) c2, st1 (by omega) c3, st1 (by omega) c4, st1 (by omega) c5⟩ | with_reducible exact ⟨dr_c (dr_c c0), dr_c (dr_c c1), dr_c (dr_c c2), dr_c (dr_c c3), dr_c (dr_c c4), dr_c (dr_c c5)⟩ | with_reducible exact ⟨dr_c (al_c _ (dr_c c0)), dr_c (al_c _ (dr_c c1)), dr_c (al_c _ (dr_c c2)), dr_c (al_c _ (dr_c c3)), dr_c (al_c _ (dr_c c4)), dr_c (al_c _ (dr_c c5))⟩)
      (first | (go_at_call 40; refine Calls.mono (JN.out _ _ (by first | exact hb | exact hb.drew | exact hb.alloc hb.size _ | exact (hb.alloc hb.size _).drew | exact hb.drew.alloc hb.drew.size _) (by first | exact (OwnU.seg' (lit_own (w := w1) x)) | exact (OwnU.seg' (lit_own (w := w1.drew) x)) | exact (OwnU.seg' ((lit_own (w := w1) x).below (Below.refl _ _).drew)))) ?_; rintro u w3 ⟨g3, rfl, hbb, ho3⟩; have hbn := (by first | exact hb.trans (hbb.mono hb.size) | exact hb.drew.trans (hbb.mono hb.drew.size) | exact (hb.alloc hb.size _).trans (hbb.mono (hb.alloc hb.size _).size) | exact ((hb.alloc hb.size _).drew).trans (hbb.mono ((hb.alloc hb.size _).drew).size) | exact (hb.drew.alloc hb.drew.size _).trans (hbb.mono (hb.drew.alloc hb.drew.size _).size)); replace hb := hbn; clear hbn; replace c0 := kept_c hb C0.out; replace c1 := kept_c hb C1.out; replace c2 := kept_c hb C2.out; replace c3 := kept_c hb C3.out; replace c4 := kept_c hb C4.out; replace c5 := kept_c hb C5.out; replace r0 := kept_c hb R0.out; replace r1 := kept_c hb R1.out; replace rf := Bk.free (show Bk w3 (w.heap.size + 1) _ from K1.out.2.below hb); have HO3 : Hid (OE w3 _ _ _ _) := ho3; have hz3 := hb.size; clear hbb ho3) | (go_at_call 23; refine Calls.mono (WT.out _ _) ?_; rintro u w4 ⟨rfl, hbb⟩; have hz4 := hbb.size; have HO4 : Hid (OE w4 _ _ _ _) := (by first | exact HO3.out.below hbb | exact HO3.out.below ((Below.refl _ _).drew.trans hbb)); have hbn := (by first | exact hb.trans (hbb.mono hb.size) | exact hb.drew.trans (hbb.mono hb.drew.size) | exact (hb.alloc hb.size _).trans (hbb.mono (hb.alloc hb.size _).size) | exact ((hb.alloc hb.size _).drew).trans (hbb.mono ((hb.alloc hb.size _).drew).size) | exact (hb.drew.alloc hb.drew.size _).trans (hbb.mono (hb.drew.alloc hb.drew.size _).size)); replace hb := hbn; clear hbn; replace c0 := kept_c hb C0.out; replace c1 := kept_c hb C1.out; replace c2 := kept_c hb C2.out; replace c3 := kept_c hb C3.out; replace c4 := kept_c hb C4.out; replace c5 := kept_c hb C5.out; replace r0 := kept_c hb R0.out; replace r1 := kept_c hb R1.out; replace rf := Bk.free (show Bk w4 (w.heap.size + 1) _ from K1.out.2.below hb); clear hbb))
    all_goals
      rename_i hhh
      try clear hhh
      have HB2 : Hid (Below w.heap.size w w4) := HB1.out.trans (hb.mono HB1.out.size)
      have KR : Hid (Bk w4 (w.heap.size + 1) (orow 0 none 0 0)) := K1.out.2.below hb
      have hzw := HB1.out.size
      have k2 : Bk ((w4.setCell ⟨w.heap.size + 1, 0, none⟩ (.int .i64 h)).setCell ⟨w.heap.size + 1, 1, none⟩ (.slice (some ⟨g3, 0, none⟩) (n + 1) (n + 1))) (w.heap.size + 1) #[.int .i64 h, .slice (some ⟨g3, 0, none⟩) (n + 1) (n + 1)] := (KR.out.set 0 (.int .i64 h) (by simp) (cs' := #[.int .i64 h, .slice none 0 0]) rfl).set 1 _ (by simp) rfl
      have t2 : Betw (w.heap.size + 1) (w.heap.size + 2) w4 ((w4.setCell ⟨w.heap.size + 1, 0, none⟩ (.int .i64 h)).setCell ⟨w.heap.size + 1, 1, none⟩ (.slice (some ⟨g3, 0, none⟩) (n + 1) (n + 1))) := ((Betw.refl (w.heap.size + 1) (w.heap.size + 2) w4).setCell (p := ⟨w.heap.size + 1, 0, none⟩) (by simp) (by simp) (.int .i64 h)).setCell (p := ⟨w.heap.size + 1, 1, none⟩) (by simp) (by simp) (.slice (some ⟨g3, 0, none⟩) (n + 1) (n + 1))
      have x2 : Below w.heap.size w ((w4.setCell ⟨w.heap.size + 1, 0, none⟩ (.int .i64 h)).setCell ⟨w.heap.size + 1, 1, none⟩ (.slice (some ⟨g3, 0, none⟩) (n + 1) (n + 1))) := HB2.out.trans (t2.below (by omega) HB2.out.size)
      have o2 : OE ((w4.setCell ⟨w.heap.size + 1, 0, none⟩ (.int .i64 h)).setCell ⟨w.heap.size + 1, 1, none⟩ (.slice (some ⟨g3, 0, none⟩) (n + 1) (n + 1))) w.heap.size ((w4.setCell ⟨w.heap.size + 1, 0, none⟩ (.int .i64 h)).setCell ⟨w.heap.size + 1, 1, none⟩ (.slice (some ⟨g3, 0, none⟩) (n + 1) (n + 1))).heap.size (some ⟨g3, 0, none⟩) (zs ++ [x]) := OE.wide (OE.betw HO4.out t2 (.inr (by first | omega | (simp; omega)))) (by first | omega | (simp; omega)) (by first | (simp at hz4 ⊢; omega) | (simp; omega) | simp)
      clear r0 r1 rf K1 HB1 HB2 KR HO3 HO4 c0 c1 c2 c3 c4 c5 C0 C1 C2 C3 C4 C5 R0 R1 hb t2
      revert k2 x2 o2
      generalize ((w4.setCell ⟨w.heap.size + 1, 0, none⟩ (.int .i64 h)).setCell ⟨w.heap.size + 1, 1, none⟩ (.slice (some ⟨g3, 0, none⟩) (n + 1) (n + 1))) = Wf
      intro k2 x2 o2
      go_wp2
      have q0 := k2.cell 0 _ rfl
      have q1 := k2.cell 1 _ rfl
      refine bodyPost_ret (v := .agg #[.int .i64 h, .slice (some ⟨g3, 0, none⟩) (n + 1) (n + 1)]) (by simp [results, Try.results25, go_sem, q0, q1]) rfl ?_
      exact ⟨_, _, by rw [hl9.out], x2, o2⟩
end Go.Proofs.Ytobgaakcinjnaaa
