
/-
  The walk of the law on ChanPlay, the specification's answer given: a draft. Conditions: those that it names.
-/
import Derived.Test.YtoofjlfbedjbnaaRows
import Derived.Test.YtoofjlfbedjbnaaImp
import Derived.Carry
namespace Go.Proofs.Ytoofjlfbedjbnaa
open Go.ChangeShapes Go.WideShapes Go.ChangeAt Go.RowKit Go.Deep
set_option linter.unusedVariables false

theorem ply_len (k f t d : Int) (ops : List Cp) : (plyF k f t d ops).length ≤ 1000 := by
  unfold plyF
  split
  · rename_i h
    rw [sdL_len]
    exact h.2.1
  · simp
set_option maxRecDepth 20000 in
set_option maxHeartbeats 8000000 in
theorem ply_walk (hspec : ∀ (k f t d : Int) (a : Option Addr) (n c : Nat) (ops : List Cp) (w : World) (hs : PSeg w a ops) (hl : ops.length = n) (hn : n ≤ 1048576), Calls Try.prog 45 #[crw k f t d, .slice a n c] w fun e w' => ∃ a' c', e = .returned (.slice a' (plyF k f t d ops).length c') ∧ Below w.heap.size w w' ∧ PI w' w.heap.size w'.heap.size a' (plyF k f t d ops))
    (rk rf rt rd : Int) (a : Option Addr) (cap n : Nat) (ops : List Cp) (w : World) (hs : PSeg w a ops) (hl : ops.length = n) (hn : n ≤ 9223372036854775807) :
    Calls Try.prog 11 #[crw rk rf rt rd, .slice a n cap] w fun e w' => e = .returned (.bool true) ∧ Below w.heap.size w w' := by
  have hrb : n ≤ 9223372036854775807 := hn
  have HS0 : Hid (PSeg w a ops) := hs
  have HL0 : Hid (ops.length = n) := hl
  clear hs hl hn
  have HB : Hid (Below w.heap.size w (w.alloc (.cells (crow rk rf rt rd) 23))) := (Below.refl _ w).alloc (Nat.le_refl _) _
  have HR : Hid (Bk (w.alloc (.cells (crow rk rf rt rd) 23)) w.heap.size (crow rk rf rt rd)) := Bk.new w _ _ _ rfl
  go_enter Try.func11, Try.ntmps11
  go_wp2_with fail
  refine Calls.mono (sz_cops a cap n 1048576 _ hrb (Nat.le_refl _)) ?_
  rintro u w11 ⟨⟨r, rfl, hr⟩, hw11⟩
  rw [hw11]
  clear hw11 w11
  rcases hr with hr | ⟨hr, hbig⟩
  · go_wp2
    go_ret
    exact ⟨rfl, HB.out⟩
  have hr0 : ¬ (r < 0) := by omega
  obtain ⟨ps, HPS⟩ : ∃ p, Hid (plyF rk rf rt rd ops = p) := ⟨_, rfl⟩
  obtain ⟨y, HYL⟩ : ∃ y, Hid (ps.length = y) := ⟨_, rfl⟩
  have hy : y ≤ 1000 := by rw [← HYL.out, ← HPS.out]; exact ply_len _ _ _ _ _
  have SP : Hid (∀ (X : World) a1, PSeg X a1 ops → Calls Try.prog 45 #[crw rk rf rt rd, .slice a1 n n] X fun e w' => ∃ a' c', e = .returned (.slice a' y c') ∧ Below X.heap.size X w' ∧ PI w' X.heap.size w'.heap.size a' ps) := fun X a1 h1 => by have g := hspec rk rf rt rd a1 n n ops X h1 HL0.out hbig; rw [HPS.out, HYL.out] at g; exact g
  have IM : Hid (∀ (X : World) a1, PSeg X a1 ops → Calls Try.prog 47 #[crw rk rf rt rd, .slice a1 n n] X fun e w' => ∃ a' c', e = .returned (.slice a' y c') ∧ Below X.heap.size X w' ∧ PI w' X.heap.size w'.heap.size a' ps) := fun X a1 h1 => by have g := impl_play rk rf rt rd a1 n n ops X h1 HL0.out hbig; rw [HPS.out, HYL.out] at g; exact g
  have TO : Hid (∀ X, Below w.heap.size w X → Calls Try.prog 46 #[.slice a n cap] X fun e w' => e = .returned (.slice (some ⟨X.heap.size, 0, none⟩) n n) ∧ Below X.heap.size X w' ∧ PI w' X.heap.size w'.heap.size (some ⟨X.heap.size, 0, none⟩) ops) := fun X hX => (to_cops a cap n ops X (HS0.out.below hX) HL0.out hbig).mono fun e w' ⟨h1, h2, h3⟩ => ⟨h1, h2, h3.pi HL0.out _ _ (Nat.le_refl _) h3.lt⟩
  clear HPS
  have g0 := HR.out.cell 0 _ rfl
  have g1 := HR.out.cell 1 _ rfl
  have g2 := HR.out.cell 2 _ rfl
  have g3 := HR.out.cell 3 _ rfl
  go_wp2_with fail
  refine Calls.mono (to_row rk rf rt rd _) ?_
  rintro u w12 ⟨rfl, hb12⟩
  clear g0 g1 g2 g3
  replace HB : Hid (Below w.heap.size w _) := HB.out.trans (hb12.mono HB.out.size)
  replace HR : Hid (Bk _ _ _) := Bk.below HR.out hb12
  have hz12 := hb12.size
  have hrowS := HR.out.lt
  clear hb12
  go_wp2_with fail
  refine Calls.mono (TO.out _ HB.out) ?_
  rintro u w13 ⟨rfl, hb13, ho13⟩
  replace HB : Hid (Below w.heap.size w _) := HB.out.trans (hb13.mono HB.out.size)
  replace HR : Hid (Bk _ _ _) := Bk.below HR.out hb13
  have TL : Hid (PI w13 _ _ _ ops) := ho13
  have hz13 := hb13.size
  clear hb13 ho13
  go_wp2_with fail
  refine Calls.mono (SP.out _ _ (PI.seg TL.out)) ?_
  rintro u w14 ⟨aS, cS, rfl, hb14, ho14⟩
  replace HB : Hid (Below w.heap.size w _) := HB.out.trans (hb14.mono HB.out.size)
  replace HR : Hid (Bk _ _ _) := Bk.below HR.out hb14
  replace TL : Hid (PI _ _ _ _ _) := PI.below TL.out hb14
  have hz14 := hb14.size
  have SA : Hid (PI w14 w13.heap.size w14.heap.size aS ps) := ho14
  clear hb14 ho14
  clear TL
  go_wp2_with fail
  refine Calls.mono (TO.out _ HB.out) ?_
  rintro u w15 ⟨rfl, hb15, ho15⟩
  replace HB : Hid (Below w.heap.size w _) := HB.out.trans (hb15.mono HB.out.size)
  replace HR : Hid (Bk _ _ _) := Bk.below HR.out hb15
  replace SA : Hid (PI _ _ _ _ _) := PI.below SA.out hb15
  have XA : Hid (PI w15 w14.heap.size w15.heap.size (some ⟨w14.heap.size, 0, none⟩) ops) := ho15
  have hz15 := hb15.size
  clear hb15 ho15
  have g0 := HR.out.cell 0 _ rfl
  have g1 := HR.out.cell 1 _ rfl
  have g2 := HR.out.cell 2 _ rfl
  have g3 := HR.out.cell 3 _ rfl
  go_wp2_with fail
  refine Calls.mono (to_row rk rf rt rd _) ?_
  rintro u w16 ⟨rfl, hb16⟩
  clear g0 g1 g2 g3
  replace HB : Hid (Below w.heap.size w _) := HB.out.trans (hb16.mono HB.out.size)
  replace HR : Hid (Bk _ _ _) := Bk.below HR.out hb16
  replace SA : Hid (PI _ _ _ _ _) := PI.below SA.out hb16
  replace XA : Hid (PI _ _ _ _ _) := PI.below XA.out hb16
  have hz16 := hb16.size
  have hrowG := HR.out.lt
  clear hb16
  go_wp2_with fail
  refine Calls.mono (IM.out _ _ (PI.seg XA.out)) ?_
  rintro u w17 ⟨aG, cG, rfl, hb17, ho17⟩
  replace HB : Hid (Below w.heap.size w _) := HB.out.trans (hb17.mono HB.out.size)
  replace HR : Hid (Bk _ _ _) := Bk.below HR.out hb17
  replace SA : Hid (PI _ _ _ _ _) := PI.below SA.out hb17
  replace XA : Hid (PI _ _ _ _ _) := PI.below XA.out hb17
  have hz17 := hb17.size
  have GA : Hid (PI w17 w16.heap.size w17.heap.size aG ps) := ho17
  clear hb17 ho17
  go_wp2_with fail
  refine Calls.mono (eq_csds aG aS cG cS y ps _ (PI.seg GA.out) (PI.seg SA.out) HYL.out (by omega)) ?_
  rintro u w18 ⟨rfl, hb18⟩
  replace HB : Hid (Below w.heap.size w _) := HB.out.trans (hb18.mono HB.out.size)
  replace HR : Hid (Bk _ _ _) := Bk.below HR.out hb18
  replace SA : Hid (PI _ _ _ _ _) := PI.below SA.out hb18
  replace XA : Hid (PI _ _ _ _ _) := PI.below XA.out hb18
  replace GA : Hid (PI _ _ _ _ _) := PI.below GA.out hb18
  have hz18 := hb18.size
  clear hb18
  go_wp2_with fail
  refine Calls.mono (TO.out _ HB.out) ?_
  rintro u w19 ⟨rfl, hb19, ho19⟩
  replace HB : Hid (Below w.heap.size w _) := HB.out.trans (hb19.mono HB.out.size)
  replace HR : Hid (Bk _ _ _) := Bk.below HR.out hb19
  replace SA : Hid (PI _ _ _ _ _) := PI.below SA.out hb19
  replace XA : Hid (PI _ _ _ _ _) := PI.below XA.out hb19
  replace GA : Hid (PI _ _ _ _ _) := PI.below GA.out hb19
  have TL : Hid (PI w19 _ _ _ ops) := ho19
  have hz19 := hb19.size
  clear hb19 ho19
  go_wp2_with fail
  refine Calls.mono (eq_cops _ _ n n n ops _ (PI.seg XA.out) (PI.seg TL.out) HL0.out hbig) ?_
  rintro u w20 ⟨rfl, hb20⟩
  replace HB : Hid (Below w.heap.size w _) := HB.out.trans (hb20.mono HB.out.size)
  replace HR : Hid (Bk _ _ _) := Bk.below HR.out hb20
  replace SA : Hid (PI _ _ _ _ _) := PI.below SA.out hb20
  replace XA : Hid (PI _ _ _ _ _) := PI.below XA.out hb20
  replace GA : Hid (PI _ _ _ _ _) := PI.below GA.out hb20
  replace TL : Hid (PI _ _ _ _ _) := PI.below TL.out hb20
  have hz20 := hb20.size
  clear hb20
  clear TL
  go_wp2_with fail
  refine Calls.mono (mark_cops w14.heap.size w15.heap.size n n 1 _ ops _ XA.out HL0.out hbig (by omega)) ?_
  rintro u w21 ⟨rfl, hb21, ho21⟩
  clear XA
  replace HB : Hid (Below w.heap.size w _) := HB.out.trans (hb21.below (by omega) HB.out.size)
  replace HR : Hid (Bk _ _ _) := Bk.betw HR.out hb21 (by omega)
  replace SA : Hid (PI _ _ _ _ _) := PI.betw SA.out hb21 (by omega)
  replace GA : Hid (PI _ _ _ _ _) := PI.betw GA.out hb21 (by omega)
  have hz21 := hb21.size
  clear hb21 ho21
  obtain ⟨K1, HK1⟩ : ∃ K, Hid (1 + 2 * n = K) := ⟨1 + 2 * n, (rfl : 1 + 2 * n = 1 + 2 * n)⟩
  have hK1 : ¬ ((K1 : Int) < 0) := by omega
  rw [HK1.out]
  go_wp2_with fail
  refine Calls.mono (eq_csds aG aS cG cS y ps _ (PI.seg GA.out) (PI.seg SA.out) HYL.out (by omega)) ?_
  rintro u w22 ⟨rfl, hb22⟩
  replace HB : Hid (Below w.heap.size w _) := HB.out.trans (hb22.mono HB.out.size)
  replace HR : Hid (Bk _ _ _) := Bk.below HR.out hb22
  replace SA : Hid (PI _ _ _ _ _) := PI.below SA.out hb22
  replace GA : Hid (PI _ _ _ _ _) := PI.below GA.out hb22
  have hz22 := hb22.size
  clear hb22
  go_wp2_with fail
  refine Calls.mono (mark_csds w16.heap.size w17.heap.size cG y 1 aG ps _ GA.out HYL.out (by omega) (by omega)) ?_
  rintro u w23 ⟨rfl, hb23, ho23⟩
  clear GA
  replace HB : Hid (Below w.heap.size w _) := HB.out.trans (hb23.below (by omega) HB.out.size)
  replace HR : Hid (Bk _ _ _) := Bk.betw HR.out hb23 (by omega)
  replace SA : Hid (PI _ _ _ _ _) := PI.betw SA.out hb23 (by omega)
  have GM : Hid (PI w23 w16.heap.size w17.heap.size aG (marksP 1 y)) := ho23
  have hz23 := hb23.size
  clear hb23 ho23
  obtain ⟨K2, HK2⟩ : ∃ K, Hid (1 + 2 * y = K) := ⟨1 + 2 * y, (rfl : 1 + 2 * y = 1 + 2 * y)⟩
  have hK2 : ¬ ((K2 : Int) < 0) := by omega
  rw [HK2.out]
  go_wp2_with fail
  refine Calls.mono (held_csds aG cG y 1 _ (PI.seg GM.out) (by omega) (by omega)) ?_
  rintro u w24 ⟨rfl, hw24⟩
  rw [hw24]
  clear hw24 w24
  rw [HK2.out]
  have g0 := HR.out.cell 0 _ rfl
  have g1 := HR.out.cell 1 _ rfl
  have g2 := HR.out.cell 2 _ rfl
  have g3 := HR.out.cell 3 _ rfl
  go_wp2_with fail
  refine Calls.mono (to_row rk rf rt rd _) ?_
  rintro u w25 ⟨rfl, hb25⟩
  clear g0 g1 g2 g3
  replace HB : Hid (Below w.heap.size w _) := HB.out.trans (hb25.mono HB.out.size)
  replace HR : Hid (Bk _ _ _) := Bk.below HR.out hb25
  replace SA : Hid (PI _ _ _ _ _) := PI.below SA.out hb25
  replace GM : Hid (PI _ _ _ _ _) := PI.below GM.out hb25
  have hz25 := hb25.size
  have hrowH := HR.out.lt
  clear hb25
  go_wp2_with fail
  refine Calls.mono (TO.out _ HB.out) ?_
  rintro u w26 ⟨rfl, hb26, ho26⟩
  replace HB : Hid (Below w.heap.size w _) := HB.out.trans (hb26.mono HB.out.size)
  replace HR : Hid (Bk _ _ _) := Bk.below HR.out hb26
  replace SA : Hid (PI _ _ _ _ _) := PI.below SA.out hb26
  replace GM : Hid (PI _ _ _ _ _) := PI.below GM.out hb26
  have TL : Hid (PI w26 _ _ _ ops) := ho26
  have hz26 := hb26.size
  clear hb26 ho26
  go_wp2_with fail
  refine Calls.mono (IM.out _ _ (PI.seg TL.out)) ?_
  rintro u w27 ⟨aH, cH, rfl, hb27, ho27⟩
  replace HB : Hid (Below w.heap.size w _) := HB.out.trans (hb27.mono HB.out.size)
  replace HR : Hid (Bk _ _ _) := Bk.below HR.out hb27
  replace SA : Hid (PI _ _ _ _ _) := PI.below SA.out hb27
  replace GM : Hid (PI _ _ _ _ _) := PI.below GM.out hb27
  replace TL : Hid (PI _ _ _ _ _) := PI.below TL.out hb27
  have hz27 := hb27.size
  have HA : Hid (PI w27 w26.heap.size w27.heap.size aH ps) := ho27
  clear hb27 ho27
  clear TL
  go_wp2_with fail
  refine Calls.mono (eq_csds aH aS cH cS y ps _ (PI.seg HA.out) (PI.seg SA.out) HYL.out (by omega)) ?_
  rintro u w28 ⟨rfl, hb28⟩
  replace HB : Hid (Below w.heap.size w _) := HB.out.trans (hb28.mono HB.out.size)
  replace HR : Hid (Bk _ _ _) := Bk.below HR.out hb28
  replace SA : Hid (PI _ _ _ _ _) := PI.below SA.out hb28
  replace GM : Hid (PI _ _ _ _ _) := PI.below GM.out hb28
  replace HA : Hid (PI _ _ _ _ _) := PI.below HA.out hb28
  have hz28 := hb28.size
  clear hb28
  go_wp2_with fail
  refine Calls.mono (held_csds aG cG y 1 _ (PI.seg GM.out) (by omega) (by omega)) ?_
  rintro u w29 ⟨rfl, hw29⟩
  rw [hw29]
  clear hw29 w29
  rw [HK2.out]
  go_wp2
  go_ret
  exact ⟨rfl, HB.out⟩
end Go.Proofs.Ytoofjlfbedjbnaa
