
/-
  One op of a channel's run, by the program: what it leaves of the two ends and what it tells. Conditions: the words read as words, at most 1048576 of either; what is ready fits its capacity.
-/
import Derived.Test.YtoofjlfbedjbnaaRows
import Derived.Test.YtoofjlfbedjbnaaCnf
import Derived.Test.YtoofjlfbedjbnaaDoo
import Derived.Test.YtoofjlfbedjbnaaRci
import Derived.Test.YtoofjlfbedjbnaaBci
namespace Go.Proofs.Ytoofjlfbedjbnaa
open Go.ChangeShapes Go.WideShapes Go.ChangeAt Go.RowKit Go.Deep
set_option linter.unusedVariables false
set_option maxRecDepth 20000 in
set_option maxHeartbeats 4000000 in
theorem impl_do2 (bC : Nat) (k f t d h : Int) (a1 : Option Addr) (n1 c1 : Nat) (a2 : Option Addr) (n2 c2 : Nat) (x : Int) (w : World) (hk : Bk w bC (rnr k f t d h a1 n1 c1 a2 n2 c2)) (zs rs : List Int) (h' : Int) (ys xs : List Int) (hs : Seg .u32 w a1 zs) (hl : zs.length = n1) (hn : n1 ≤ 1048576) (hsr : Seg .u32 w a2 rs) (hlr : rs.length = n2) (hm : n2 ≤ 1048576) (HR : Hid (borF k f t d h (n1 : Int) (n2 : Int) zs rs = (h', ys, xs))) :
    Calls Try.prog 76 #[.pointer (some ⟨bC, 0, none⟩), cpv 2 x] w fun e w' => ∃ a' c', e = .returned (cpv 0 0) ∧ Betw bC (bC + 1) w w' ∧ Bk w' bC (rnr k f t d h' none 0 0 a' ys.length c') ∧ OE w' w.heap.size w'.heap.size a' ys ∧ ys.length ≤ c' := by
  obtain ⟨WW, HWW⟩ : ∃ W, Hid (W = (((w.alloc (.cells #[.int .i64 2, .int .u32 x] 76)).alloc (.cells #[.int .i64 0, .int .u32 0] 78)).alloc (.cells #[.int .i64 0, .int .u32 0] 78))) := ⟨_, rfl⟩
  have HB : Hid (Below w.heap.size w WW) := by rw [HWW.out]; exact (((Below.refl _ w).alloc (Nat.le_refl _) _).alloc (by simp) _).alloc (by simp; omega) _
  have HK : Hid (Bk WW bC (rnr k f t d h a1 n1 c1 a2 n2 c2) ∧ Bk WW w.heap.size #[.int .i64 2, .int .u32 x] ∧ Bk WW (w.heap.size + 1) #[.int .i64 0, .int .u32 0] ∧ Bk WW (w.heap.size + 1 + 1) #[.int .i64 0, .int .u32 0]) := by rw [HWW.out]; exact ⟨((hk.alloc _).alloc _).alloc _, ((Bk.new w _ _ _ rfl).alloc _).alloc _, (Bk.new _ _ _ _ (by simp)).alloc _, Bk.new _ _ _ _ (by simp)⟩
  have hlt := hk.lt
  have hWz : WW.heap.size = w.heap.size + 3 := by rw [HWW.out]; simp
  clear hk
  have HS : Hid (Seg .u32 w a1 zs) := hs
  have HL : Hid (zs.length = n1) := hl
  have HS2 : Hid (Seg .u32 w a2 rs) := hsr
  have HL2 : Hid (rs.length = n2) := hlr
  clear hs hl hsr hlr
  obtain ⟨yl, HYL⟩ : ∃ y, Hid (ys.length = y) := ⟨_, rfl⟩
  rw [HYL.out]
  go_enter Try.func76, Try.ntmps76
  go_wp2_with fail
  rw [← HWW.out]
  have HBD : Hid (Below WW.heap.size WW WW.drew) := (Below.refl _ _).drew
  have HX : Hid (Below w.heap.size w WW.drew) := HB.out.drew
  have DS : Hid (Calls Try.prog 40 #[crw k f t d, oen h a1 n1 c1, ien a2 n2 c2] WW.drew fun e w' => ∃ a' c' p2 e2, e = .returned (.tuple #[oen h' none 0 0, ien a' yl c', .slice p2 xs.length e2]) ∧ Below WW.drew.heap.size WW.drew w' ∧ OE w' WW.drew.heap.size w'.heap.size a' ys ∧ yl ≤ c') := by
    have g := impl_borderc k f t d h a1 n1 c1 a2 n2 c2 zs rs h' ys xs WW.drew (HS.out.below HX.out) HL.out hn (HS2.out.below HX.out) HL2.out hm HR
    rw [HYL.out] at g
    exact g.mono fun e w' ⟨q1, d1, q2, d2, g1, g2, ⟨l1, u1, l2, u2, o1, o2, i1, i2, i3, _⟩, g4⟩ => ⟨q1, d1, q2, d2, g1, g2, OE.wide o1 i1 i3, g4⟩
  clear HR HS HS2
  have g0 : WW.drew.cell? ⟨bC, 0, none⟩ = some (.int .i64 k) := HK.out.1.cell 0 _ rfl
  have g1 : WW.drew.cell? ⟨bC, 1, none⟩ = some (.int .i64 f) := HK.out.1.cell 1 _ rfl
  have g2 : WW.drew.cell? ⟨bC, 2, none⟩ = some (.int .i64 t) := HK.out.1.cell 2 _ rfl
  have g3 : WW.drew.cell? ⟨bC, 3, none⟩ = some (.int .i64 d) := HK.out.1.cell 3 _ rfl
  have g4 : WW.drew.cell? ⟨bC, 4, none⟩ = some (.int .i64 h) := HK.out.1.cell 4 _ rfl
  have g5 : WW.drew.cell? ⟨bC, 5, none⟩ = some (.slice a1 n1 c1) := HK.out.1.cell 5 _ rfl
  have g6 : WW.drew.cell? ⟨bC, 6, none⟩ = some (.slice a2 n2 c2) := HK.out.1.cell 6 _ rfl
  have g7 : WW.drew.cell? ⟨w.heap.size, 1, none⟩ = some (.int .u32 x) := HK.out.2.1.cell 1 _ rfl
  have g8 : WW.drew.cell? ⟨w.heap.size, 0, none⟩ = some (.int .i64 2) := HK.out.2.1.cell 0 _ rfl
  go_region_with (go_at_call 40; refine Calls.mono (DS.out) ?_; rintro u w3 ⟨an, cn, pn, en, rfl, hbb, ho3, hcn⟩; have hb3 : Below WW.heap.size WW w3 := HBD.out.trans hbb; have K3 : Hid (Bk w3 bC (rnr k f t d h a1 n1 c1 a2 n2 c2) ∧ Bk w3 (w.heap.size + 1) #[.int .i64 0, .int .u32 0] ∧ Bk w3 (w.heap.size + 1 + 1) #[.int .i64 0, .int .u32 0] ∧ Below w.heap.size w w3) := ⟨HK.out.1.below hb3, HK.out.2.2.1.below hb3, HK.out.2.2.2.below hb3, HB.out.trans (hb3.mono HB.out.size)⟩; have HO3 : Hid (OE w3 (w.heap.size + 3) w3.heap.size an ys) := OE.wide ho3 (by show _ ≤ WW.heap.size; omega) (Nat.le_refl _); clear ho3; have e0 := K3.out.1.cell 4 _ rfl; have e1 := K3.out.1.cell 5 _ rfl; have e2 := K3.out.1.cell 6 _ rfl; have ef := K3.out.1.free; have ef2 := K3.out.2.2.1.free; clear hbb hb3)
  all_goals
    have hlw := K3.out.2.2.1.lt
    have kC : Bk (((w3.setCell ⟨bC, 4, none⟩ (.int .i64 h')).setCell ⟨bC, 5, none⟩ (.slice none 0 0)).setCell ⟨bC, 6, none⟩ (.slice an yl cn)) bC (rnr k f t d h' none 0 0 an yl cn) := (((K3.out.1.set 4 (.int .i64 h') (by simp) (cs' := #[.int .i64 k, .int .i64 f, .int .i64 t, .int .i64 d, .int .i64 h', .slice a1 n1 c1, .slice a2 n2 c2]) rfl).set 5 (.slice none 0 0) (by simp) (cs' := #[.int .i64 k, .int .i64 f, .int .i64 t, .int .i64 d, .int .i64 h', .slice none 0 0, .slice a2 n2 c2]) rfl).set 6 (.slice an yl cn) (by simp) (cs' := #[.int .i64 k, .int .i64 f, .int .i64 t, .int .i64 d, .int .i64 h', .slice none 0 0, .slice an yl cn]) rfl)
    have tb : Betw 0 (w.heap.size + 3) w3 (((w3.setCell ⟨bC, 4, none⟩ (.int .i64 h')).setCell ⟨bC, 5, none⟩ (.slice none 0 0)).setCell ⟨bC, 6, none⟩ (.slice an yl cn)) := ((((Betw.refl 0 (w.heap.size + 3) w3).setCell (p := ⟨bC, 4, none⟩) (Nat.zero_le _) (by first | (simp; done) | (simp; omega)) _).setCell (p := ⟨bC, 5, none⟩) (Nat.zero_le _) (by first | (simp; done) | (simp; omega)) _).setCell (p := ⟨bC, 6, none⟩) (Nat.zero_le _) (by first | (simp; done) | (simp; omega)) _)
    have kS : Bk (((w3.setCell ⟨bC, 4, none⟩ (.int .i64 h')).setCell ⟨bC, 5, none⟩ (.slice none 0 0)).setCell ⟨bC, 6, none⟩ (.slice an yl cn)) (w.heap.size + 1 + 1) #[.int .i64 0, .int .u32 0] := (((K3.out.2.2.1.other _ _ _ (by omega)).other _ _ _ (by omega)).other _ _ _ (by omega))
    have kR : Bk (((w3.setCell ⟨bC, 4, none⟩ (.int .i64 h')).setCell ⟨bC, 5, none⟩ (.slice none 0 0)).setCell ⟨bC, 6, none⟩ (.slice an yl cn)) (w.heap.size + 1) #[.int .i64 0, .int .u32 0] := (((K3.out.2.1.other _ _ _ (by omega)).other _ _ _ (by omega)).other _ _ _ (by omega))
    have xb : Betw bC (bC + 1) w (((w3.setCell ⟨bC, 4, none⟩ (.int .i64 h')).setCell ⟨bC, 5, none⟩ (.slice none 0 0)).setCell ⟨bC, 6, none⟩ (.slice an yl cn)) := ((((Below.betw K3.out.2.2.2 : Betw bC (bC + 1) w w3).setCell (p := ⟨bC, 4, none⟩) (Nat.le_refl _) (Nat.lt_succ_self _) _).setCell (p := ⟨bC, 5, none⟩) (Nat.le_refl _) (Nat.lt_succ_self _) _).setCell (p := ⟨bC, 6, none⟩) (Nat.le_refl _) (Nat.lt_succ_self _) _)
    have OL : Hid (OE _ (w.heap.size + 3) w3.heap.size an ys) := HO3.out.betw tb (.inr (Nat.le_refl _))
    clear g0 g1 g2 g3 g4 g5 g6 g7 g8 e0 e1 e2 ef ef2 K3 HK HB HBD DS HWW HX
    generalize (((w3.setCell ⟨bC, 4, none⟩ (.int .i64 h')).setCell ⟨bC, 5, none⟩ (.slice none 0 0)).setCell ⟨bC, 6, none⟩ (.slice an yl cn)) = W4 at kC tb kS kR xb OL ⊢
    have s0 := kS.cell 0 _ rfl
    have s1 := kS.cell 1 _ rfl
    have r0 := kR.cell 0 _ rfl
    have r1 := kR.cell 1 _ rfl
    have rf := kR.free
    have kR2 : Bk ((W4.setCell ⟨w.heap.size + 1, 0, none⟩ (.int .i64 0)).setCell ⟨w.heap.size + 1, 1, none⟩ (.int .u32 0)) (w.heap.size + 1) #[.int .i64 0, .int .u32 0] := (kR.set 0 (.int .i64 0) (by simp) (cs' := #[.int .i64 0, .int .u32 0]) rfl).set 1 _ (by simp) rfl
    have kC2 : Bk ((W4.setCell ⟨w.heap.size + 1, 0, none⟩ (.int .i64 0)).setCell ⟨w.heap.size + 1, 1, none⟩ (.int .u32 0)) bC (rnr k f t d h' none 0 0 an yl cn) := (kC.other _ _ _ (by omega)).other _ _ _ (by omega)
    have x2 : Betw bC (bC + 1) w ((W4.setCell ⟨w.heap.size + 1, 0, none⟩ (.int .i64 0)).setCell ⟨w.heap.size + 1, 1, none⟩ (.int .u32 0)) := (xb.far (p := ⟨w.heap.size + 1, 0, none⟩) (by simp) _).far (p := ⟨w.heap.size + 1, 1, none⟩) (by simp) _
    have t2 : Betw 0 (w.heap.size + 3) W4 ((W4.setCell ⟨w.heap.size + 1, 0, none⟩ (.int .i64 0)).setCell ⟨w.heap.size + 1, 1, none⟩ (.int .u32 0)) := ((Betw.refl 0 (w.heap.size + 3) W4).setCell (p := ⟨w.heap.size + 1, 0, none⟩) (Nat.zero_le _) (by simp) _).setCell (p := ⟨w.heap.size + 1, 1, none⟩) (Nat.zero_le _) (by simp) _
    have hz4 := tb.size; have hz5 := t2.size; have OF : Hid (OE _ (w.heap.size + 3) w3.heap.size an ys ∧ w3.heap.size ≤ _) := ⟨OL.out.betw t2 (.inr (Nat.le_refl _)), Nat.le_trans hz4 hz5⟩
    go_wp2
    clear s0 s1 r0 r1 rf kR kS kC tb xb t2 OL
    generalize ((W4.setCell ⟨w.heap.size + 1, 0, none⟩ (.int .i64 0)).setCell ⟨w.heap.size + 1, 1, none⟩ (.int .u32 0)) = Wf at kR2 kC2 x2 OF ⊢
    have q0 := kR2.cell 0 _ rfl
    have q1 := kR2.cell 1 _ rfl
    exact bodyPost_ret (v := .agg #[.int .i64 0, .int .u32 0]) (by simp [results, Try.results76, go_sem, q0, q1]) rfl ⟨an, cn, rfl, x2, kC2, OE.wide OF.out.1 (by omega) OF.out.2, hcn⟩
end Go.Proofs.Ytoofjlfbedjbnaa
