
/-
  A register of a guest set, by the specification and by the program: the same guest, in memory of the call's own. Conditions: registers, rows and bytes are at most 1048576 together.
-/
import Derived.Test.YtjlhkjiccibgdaaBas
import Derived.Test.YtjlhkjiccibgdaaProg
import Derived.Test.YtjlhkjiccibgdaaGsc
namespace Go.Proofs.Ytjlhkjiccibgdaa
open Go.ChangeShapes Go.WideShapes Go.ChangeAt Go.RowKit Go.Deep
set_option linter.unusedVariables false

def setR (rs : List Int) (k : Nat) (x : Int) : List Int := if k = 0 then rs else rs.set k x
theorem setR_len (rs : List Int) (k : Nat) (x : Int) : (setR rs k x).length = rs.length := by unfold setR; split <;> simp
theorem ON.put {k : IntKind} {w : World} {lo hi : Nat} {a : Option Addr} {zs : List Int} {R : Nat} (h : ON k w lo hi a zs R) (i : Nat) (hi' : i < zs.length) (v : Int) :
    ∃ off, a = some ⟨R, off, none⟩ ∧ (∃ u, w.cell? ⟨R, off + i, none⟩ = some u) ∧ w.frozen? ⟨R, off + i, none⟩ = false ∧ Betw R (R + 1) w (w.setCell ⟨R, off + i, none⟩ (.int k v)) ∧ ON k (w.setCell ⟨R, off + i, none⟩ (.int k v)) lo hi a (zs.set i v) R := by
  obtain ⟨off, e, h1, h2, hlt, hc, hf⟩ := h (by omega)
  refine ⟨off, e, ⟨_, hc i hi'⟩, hf _, (Betw.refl _ _ _).setCell (p := ⟨R, off + i, none⟩) (Nat.le_refl _) (Nat.lt_succ_self _) _, fun _ => ⟨off, e, h1, h2, by simpa using hlt, fun j hj => ?_, fun j => by rw [World.frozen?_setCell]; exact hf j⟩⟩
  rw [List.length_set] at hj
  by_cases c : i = j
  · subst c
    rw [World.cell?_setCell_same _ _ _ (hc i hi')]
    simp [hi', List.getD]
  · rw [World.cell?_setCell_other _ _ _ _ (by intro c'; injection c' with c1 c2 c3; omega), hc j hj]
    simp [c, List.getD]
theorem Sep.set {w : World} {lo hi : Nat} {ra ma : Option Addr} {rs : List Int} {n : Nat} {D : Nat → List Int} (h : Sep w lo hi ra ma rs n D) (h0 : 0 < rs.length) :
    ∃ R, ON .u32 w lo hi ra rs R ∧ ∀ w' rs', Betw R (R + 1) w w' → ON .u32 w' lo hi ra rs' R → Sep w' lo hi ra ma rs' n D := by
  obtain ⟨l2, h2, g1, g2, hm, R, hr, g3⟩ := h
  exact ⟨R, hr, fun w' rs' hb hon => ⟨l2, h2, g1, g2, hm.betw hb (by have := g3 h0; omega), R, hon, fun _ => g3 h0⟩⟩
theorem OGst.set {w : World} {lo m hi : Nat} {ra ma : Option Addr} {rs : List Int} {n : Nat} {D : Nat → List Int} (h : OGst w lo m hi ra ma rs n D) (h0 : 0 < rs.length) :
    ∃ R, ON .u32 w lo m ra rs R ∧ ∀ w' rs', Betw R (R + 1) w w' → ON .u32 w' lo m ra rs' R → OGst w' lo m hi ra ma rs' n D := by
  obtain ⟨⟨R, hr⟩, hm⟩ := h
  exact ⟨R, hr, fun w' rs' hb hon => ⟨⟨R, hon⟩, hm.betw hb (by have := hr.range h0; omega)⟩⟩
theorem is_reg (x : Int) (w : World) : Calls Try.prog 25 #[.int .i64 x] w fun e w' => e = .returned (.bool (inr x 0 15)) ∧ w' = w := by
  by_cases h1 : 0 ≤ x
  · by_cases h2 : x ≤ 15
    · rw [inr_yes ⟨h1, h2⟩]
      go_enter Try.func25, Try.ntmps25
      go_wp2
      go_ret
      exact ⟨rfl, rfl⟩
    · rw [inr_no (fun g => h2 g.2)]
      go_enter Try.func25, Try.ntmps25
      go_wp2
      go_ret
      exact ⟨rfl, rfl⟩
  · rw [inr_no (fun g => h1 g.1)]
    go_enter Try.func25, Try.ntmps25
    go_wp2
    go_ret
    exact ⟨rfl, rfl⟩
set_option maxHeartbeats 1000000 in
theorem spec_set (ra ma : Option Addr) (rl rc n mc k lo hi R : Nat) (pc x : Int) (rs : List Int) (w : World) (ho : ON .u32 w lo hi ra rs R) (hl : rs.length = rl) (hr : rl ≤ 1048576) (hk : k < rl) :
    Calls Try.prog 22 #[gst ra rl rc pc ma n mc, .int .i64 (k : Int), .int .u32 x] w fun e w' => e = .returned (.tuple #[]) ∧ Betw R (R + 1) w w' ∧ ON .u32 w' lo hi ra (setR rs k x) R := by
  have hbw : Below w.heap.size w (w.alloc (.cells #[.slice ra rl rc, .int .u32 pc, .slice ma n mc] 28)) := (Below.refl _ w).alloc (Nat.le_refl _) _
  have c0 := (Bk.new w #[.slice ra rl rc, .int .u32 pc, .slice ma n mc] 28 w.heap.size rfl).cell 0 _ rfl
  by_cases hk0 : k = 0
  · subst hk0
    have HX : Hid (Betw R (R + 1) w _ ∧ ON .u32 _ lo hi ra (setR rs 0 x) R) := ⟨Below.betw hbw, by rw [setR, if_pos rfl]; exact ho.below hbw⟩
    clear ho hbw hl
    go_enter Try.func22, Try.ntmps22
    go_wp2
    go_end0
    exact ⟨rfl, HX.out.1, HX.out.2⟩
  · obtain ⟨off, rfl, ⟨u, hu⟩, hf, hbt, hon⟩ := (ho.below hbw).put k (by omega) x
    have HX : Hid (Betw R (R + 1) w _ ∧ ON .u32 _ lo hi (some ⟨R, off, none⟩) (setR rs k x) R) := ⟨(Below.betw hbw).trans hbt, by rw [setR, if_neg hk0]; exact hon⟩
    have hk0' : ((k : Int) == 0) = false := beq_eq_false_iff_ne.2 (by omega)
    have hkp : (0 : Int) < (k : Int) := by omega
    clear ho hbw hl hbt hon
    go_enter Try.func22, Try.ntmps22
    go_wp2
    go_end0
    exact ⟨rfl, HX.out.1, HX.out.2⟩
set_option maxHeartbeats 1000000 in
theorem impl_set (ra ma : Option Addr) (rl rc n mc k lo hi R : Nat) (pc x : Int) (rs : List Int) (w : World) (ho : ON .u32 w lo hi ra rs R) (hl : rs.length = rl) (hr : rl ≤ 1048576) (hk : k < rl) :
    Calls Try.prog 27 #[gst ra rl rc pc ma n mc, .int .i64 (k : Int), .int .u32 x] w fun e w' => e = .returned (.tuple #[]) ∧ Betw R (R + 1) w w' ∧ ON .u32 w' lo hi ra (setR rs k x) R := by
  have hbw : Below w.heap.size w (w.alloc (.cells #[.slice ra rl rc, .int .u32 pc, .slice ma n mc] 28)) := (Below.refl _ w).alloc (Nat.le_refl _) _
  have c0 := (Bk.new w #[.slice ra rl rc, .int .u32 pc, .slice ma n mc] 28 w.heap.size rfl).cell 0 _ rfl
  by_cases hk0 : k = 0
  · subst hk0
    have HX : Hid (Betw R (R + 1) w _ ∧ ON .u32 _ lo hi ra (setR rs 0 x) R) := ⟨Below.betw hbw, by rw [setR, if_pos rfl]; exact ho.below hbw⟩
    clear ho hbw hl
    go_enter Try.func27, Try.ntmps27
    go_wp2
    go_end0
    exact ⟨rfl, HX.out.1, HX.out.2⟩
  · obtain ⟨off, rfl, ⟨u, hu⟩, hf, hbt, hon⟩ := (ho.below hbw).put k (by omega) x
    have HX : Hid (Betw R (R + 1) w _ ∧ ON .u32 _ lo hi (some ⟨R, off, none⟩) (setR rs k x) R) := ⟨(Below.betw hbw).trans hbt, by rw [setR, if_neg hk0]; exact hon⟩
    have hk0' : ((k : Int) == 0) = false := beq_eq_false_iff_ne.2 (by omega)
    have hkp : (0 : Int) < (k : Int) := by omega
    clear ho hbw hl hbt hon
    go_enter Try.func27, Try.ntmps27
    go_wp2
    go_end0
    exact ⟨rfl, HX.out.1, HX.out.2⟩
set_option maxHeartbeats 4000000 in
theorem spec_regset_no (pc x k : Int) (ra ma : Option Addr) (rl rc n mc : Nat) (w : World) (hno : ¬ (rl = 16 ∧ 0 ≤ k ∧ k ≤ 15)) :
    Calls Try.prog 6 #[gst ra rl rc pc ma n mc, .int .i64 k, .int .u32 x] w fun e w' => e = .returned (gst none 0 0 0 none 0 0) ∧ Below w.heap.size w w' := by
  have B0 := (Bk.new w #[.slice ra rl rc, .int .u32 pc, .slice ma n mc] 28 w.heap.size rfl).alloc (.cells #[.slice none 0 0, .int .u32 0, .slice none 0 0] 28)
  have B1 := Bk.new (w.alloc (.cells #[.slice ra rl rc, .int .u32 pc, .slice ma n mc] 28)) #[.slice none 0 0, .int .u32 0, .slice none 0 0] 28 (w.heap.size + 1) (by simp)
  have HB : Hid (Below w.heap.size w ((w.alloc (.cells #[.slice ra rl rc, .int .u32 pc, .slice ma n mc] 28)).alloc (.cells #[.slice none 0 0, .int .u32 0, .slice none 0 0] 28))) := ((Below.refl _ w).alloc (Nat.le_refl _) _).alloc (by simp) _
  have c0 := B0.cell 0 _ rfl
  have d0 := B1.cell 0 _ rfl
  have d1 := (B1.set 0 (.slice none 0 0) (by simp) rfl).cell 1 _ rfl
  have d2 := ((B1.set 0 (.slice none 0 0) (by simp) rfl).set 1 (.int .u32 0) (by simp) rfl).cell 2 _ rfl
  have df := B1.free
  have G2 := ((B1.set 0 (.slice none 0 0) (by simp) rfl).set 1 (.int .u32 0) (by simp) rfl).set 2 (.slice none 0 0) (by simp) rfl
  have n0 := G2.cell 0 _ rfl
  have n1 := G2.cell 1 _ rfl
  have n2 := G2.cell 2 _ rfl
  clear B0 B1 G2
  by_cases h16 : rl = 16
  · have hin : inr k 0 15 = false := inr_no (fun g => hno ⟨h16, g⟩)
    have HIN : Hid _ := (fun (z : Int) (X : World) => in_any z 0 15 X) k
    rw [hin] at HIN
    subst h16
    clear hin hno
    go_enter Try.func6, Try.ntmps6
    go_wp2_with fail
    refine (HIN.out _).mono ?_
    rintro u w1 ⟨rfl, rfl⟩
    go_wp2
    refine bodyPost_ret (v := gst none 0 0 0 none 0 0) (by simp [results, Try.results6, go_sem]) rfl ⟨rfl, ?_⟩
    first | exact HB.out | exact ((HB.out.setCell (p := ⟨w.heap.size + 1, 0, none⟩) (by simp) _).setCell (p := ⟨w.heap.size + 1, 1, none⟩) (by simp) _).setCell (p := ⟨w.heap.size + 1, 2, none⟩) (by simp) _
  · have h16' : ((rl : Int) == 16) = false := beq_eq_false_iff_ne.2 (by omega)
    clear hno
    go_enter Try.func6, Try.ntmps6
    go_wp2
    refine bodyPost_ret (v := gst none 0 0 0 none 0 0) (by simp [results, Try.results6, go_sem]) rfl ⟨rfl, ?_⟩
    first | exact HB.out | exact ((HB.out.setCell (p := ⟨w.heap.size + 1, 0, none⟩) (by simp) _).setCell (p := ⟨w.heap.size + 1, 1, none⟩) (by simp) _).setCell (p := ⟨w.heap.size + 1, 2, none⟩) (by simp) _
set_option maxHeartbeats 4000000 in
theorem spec_regset (pc x : Int) (k : Nat) (ra ma : Option Addr) (rc n mc : Nat) (rs : List Int) (D : Nat → List Int) (w : World) (hs : XGSeg w ra ma rs n D) (hl : rs.length = 16) (hk : k ≤ 15) (hn : n ≤ 1048576) (ht : btot D n ≤ 1048576) :
    Calls Try.prog 6 #[gst ra 16 rc pc ma n mc, .int .i64 (k : Int), .int .u32 x] w fun e w' => ∃ ra' ma' rc' mc', e = .returned (gst ra' 16 rc' pc ma' n mc') ∧ Below w.heap.size w w' ∧ Sep w' w.heap.size w'.heap.size ra' ma' (setR rs k x) n D := by
  have B0 := (Bk.new w #[.slice ra 16 rc, .int .u32 pc, .slice ma n mc] 28 w.heap.size rfl).alloc (.cells #[.slice none 0 0, .int .u32 0, .slice none 0 0] 28)
  have B1 := Bk.new (w.alloc (.cells #[.slice ra 16 rc, .int .u32 pc, .slice ma n mc] 28)) #[.slice none 0 0, .int .u32 0, .slice none 0 0] 28 (w.heap.size + 1) (by simp)
  have HB : Hid (Below w.heap.size w ((w.alloc (.cells #[.slice ra 16 rc, .int .u32 pc, .slice ma n mc] 28)).alloc (.cells #[.slice none 0 0, .int .u32 0, .slice none 0 0] 28))) := ((Below.refl _ w).alloc (Nat.le_refl _) _).alloc (by simp) _
  have c0 := B0.cell 0 _ rfl
  have c1 := B0.cell 1 _ rfl
  have c2 := B0.cell 2 _ rfl
  have HIN : Hid _ := (fun (z : Int) (X : World) => in_any z 0 15 X) (k : Int)
  rw [inr_yes ⟨by omega, by omega⟩] at HIN
  have HCP : Hid _ := spec_copy pc ra ma 16 rc n mc rs D _ (hs.below HB.out) hl (by omega) hn ht
  have HB1 : Hid (Bk _ (w.heap.size + 1) #[.slice none 0 0, .int .u32 0, .slice none 0 0]) := B1
  have HL : Hid (rs.length = 16) := hl
  have hsz : ((w.alloc (.cells #[.slice ra 16 rc, .int .u32 pc, .slice ma n mc] 28)).alloc (.cells #[.slice none 0 0, .int .u32 0, .slice none 0 0] 28)).heap.size = w.heap.size + 1 + 1 := by simp
  clear B0 B1 hs hl
  go_enter Try.func6, Try.ntmps6
  go_wp2_with fail
  refine (HIN.out _).mono ?_
  rintro u w1 ⟨rfl, rfl⟩
  go_wp2_with fail
  refine Calls.mono HCP.out ?_
  rintro u w3 ⟨ra3, ma3, rc3, mc3, rfl, hb3, ho3⟩
  rw [hsz] at ho3 hb3
  have hz3 := hb3.size
  rw [hsz] at hz3
  have hal : Below w3.heap.size w3 (w3.alloc (.cells #[.slice ra3 16 rc3, .int .u32 pc, .slice ma3 n mc3] 28)) := (Below.refl _ _).alloc (Nat.le_refl _) _
  have V := Bk.new w3 #[.slice ra3 16 rc3, .int .u32 pc, .slice ma3 n mc3] 28 w3.heap.size rfl
  have hb4 : Below w.heap.size w (w3.alloc (.cells #[.slice ra3 16 rc3, .int .u32 pc, .slice ma3 n mc3] 28)) := (HB.out.trans (hb3.mono (by omega))).trans (hal.mono (by omega))
  have K1 := (HB1.out.below (hsz ▸ hb3)).below hal
  obtain ⟨R, hR, hset⟩ := (ho3.below hal).set (by rw [HL.out]; omega)
  have hRr := hR.range (by rw [HL.out]; omega)
  have HSET : Hid _ := hset
  have HF : Hid (Below w.heap.size w _ ∧ Bk _ w3.heap.size #[.slice ra3 16 rc3, .int .u32 pc, .slice ma3 n mc3] ∧ Bk _ (w.heap.size + 1) #[.slice none 0 0, .int .u32 0, .slice none 0 0]) := ⟨hb4, V, K1⟩
  have HST : Hid _ := spec_set ra3 ma3 16 rc3 n mc3 k (w.heap.size + 1 + 1) _ R pc x rs _ hR HL.out (by omega) (by omega)
  have v0 := V.cell 0 _ rfl
  have v1 := V.cell 1 _ rfl
  have v2 := V.cell 2 _ rfl
  clear hset hR V K1 hb4 hal ho3 hb3 c0 c1 c2 HIN HCP
  go_wp2_with fail
  refine Calls.mono HST.out ?_
  rintro u w5 ⟨rfl, hb5, hon5⟩
  have ho5 := HSET.out w5 _ hb5 hon5
  have V5 := HF.out.2.1.betw hb5 (.inr (by omega))
  have K5 := HF.out.2.2.betw hb5 (.inl (by omega))
  have hb6 := HF.out.1.trans (hb5.below (by omega) HF.out.1.size)
  have hz5 := hb5.size
  rw [World.size_alloc] at hz5
  have p0 := V5.cell 0 _ rfl
  have p1 := V5.cell 1 _ rfl
  have p2 := V5.cell 2 _ rfl
  have d0 := K5.cell 0 _ rfl
  have d1 := (K5.set 0 (.slice ra3 16 rc3) (by simp) rfl).cell 1 _ rfl
  have d2 := ((K5.set 0 (.slice ra3 16 rc3) (by simp) rfl).set 1 (.int .u32 pc) (by simp) rfl).cell 2 _ rfl
  have df := K5.free
  have G2 := ((K5.set 0 (.slice ra3 16 rc3) (by simp) rfl).set 1 (.int .u32 pc) (by simp) rfl).set 2 (.slice ma3 n mc3) (by simp) rfl
  have n0 := G2.cell 0 _ rfl
  have n1 := G2.cell 1 _ rfl
  have n2 := G2.cell 2 _ rfl
  have HZ : Hid (Sep _ _ _ _ _ _ _ _ ∧ Below w.heap.size w w5) := ⟨ho5, hb6⟩
  clear ho5 hb6 V5 K5 G2 hb5 hon5 HF HSET HST v0 v1 v2
  go_wp2
  refine bodyPost_ret (v := gst ra3 16 rc3 pc ma3 n mc3) (by simp [results, Try.results6, go_sem, n0, n1, n2]) rfl ⟨_, _, _, _, rfl, ((HZ.out.2.setCell (p := ⟨w.heap.size + 1, 0, none⟩) (by simp) _).setCell (p := ⟨w.heap.size + 1, 1, none⟩) (by simp) _).setCell (p := ⟨w.heap.size + 1, 2, none⟩) (by simp) _, ?_⟩
  have hbt := ((Betw.refl (w.heap.size + 1) (w.heap.size + 1 + 1) w5).setCell (p := ⟨w.heap.size + 1, 0, none⟩) (by simp) (by simp) (.slice ra3 16 rc3)).setCell (p := ⟨w.heap.size + 1, 1, none⟩) (by simp) (by simp) (.int .u32 pc) |>.setCell (p := ⟨w.heap.size + 1, 2, none⟩) (by simp) (by simp) (.slice ma3 n mc3)
  exact (Sep.betw HZ.out.1 hbt (.inr (Nat.le_refl _))).wide (by omega) (by simp; omega)

set_option maxHeartbeats 4000000 in
theorem impl_regset_no (pc x k : Int) (ra ma : Option Addr) (rl rc n mc : Nat) (w : World) (hno : ¬ (rl = 16 ∧ 0 ≤ k ∧ k ≤ 15)) :
    Calls Try.prog 8 #[gst ra rl rc pc ma n mc, .int .i64 k, .int .u32 x] w fun e w' => e = .returned (gst none 0 0 0 none 0 0) ∧ Below w.heap.size w w' := by
  have B0 := (Bk.new w #[.slice ra rl rc, .int .u32 pc, .slice ma n mc] 28 w.heap.size rfl).alloc (.cells #[.slice none 0 0, .int .u32 0, .slice none 0 0] 28)
  have B1 := Bk.new (w.alloc (.cells #[.slice ra rl rc, .int .u32 pc, .slice ma n mc] 28)) #[.slice none 0 0, .int .u32 0, .slice none 0 0] 28 (w.heap.size + 1) (by simp)
  have HB : Hid (Below w.heap.size w ((w.alloc (.cells #[.slice ra rl rc, .int .u32 pc, .slice ma n mc] 28)).alloc (.cells #[.slice none 0 0, .int .u32 0, .slice none 0 0] 28))) := ((Below.refl _ w).alloc (Nat.le_refl _) _).alloc (by simp) _
  have c0 := B0.cell 0 _ rfl
  have d0 := B1.cell 0 _ rfl
  have d1 := (B1.set 0 (.slice none 0 0) (by simp) rfl).cell 1 _ rfl
  have d2 := ((B1.set 0 (.slice none 0 0) (by simp) rfl).set 1 (.int .u32 0) (by simp) rfl).cell 2 _ rfl
  have df := B1.free
  have G2 := ((B1.set 0 (.slice none 0 0) (by simp) rfl).set 1 (.int .u32 0) (by simp) rfl).set 2 (.slice none 0 0) (by simp) rfl
  have n0 := G2.cell 0 _ rfl
  have n1 := G2.cell 1 _ rfl
  have n2 := G2.cell 2 _ rfl
  clear B0 B1 G2
  by_cases h16 : rl = 16
  · have hin : inr k 0 15 = false := inr_no (fun g => hno ⟨h16, g⟩)
    have HIN : Hid _ := (fun (z : Int) (X : World) => is_reg z X) k
    rw [hin] at HIN
    subst h16
    clear hin hno
    go_enter Try.func8, Try.ntmps8
    go_wp2_with fail
    refine (HIN.out _).mono ?_
    rintro u w1 ⟨rfl, rfl⟩
    go_wp2
    refine bodyPost_ret (v := gst none 0 0 0 none 0 0) (by simp [results, Try.results8, go_sem]) rfl ⟨rfl, ?_⟩
    first | exact HB.out | exact ((HB.out.setCell (p := ⟨w.heap.size + 1, 0, none⟩) (by simp) _).setCell (p := ⟨w.heap.size + 1, 1, none⟩) (by simp) _).setCell (p := ⟨w.heap.size + 1, 2, none⟩) (by simp) _
  · have h16' : ((rl : Int) == 16) = false := beq_eq_false_iff_ne.2 (by omega)
    clear hno
    go_enter Try.func8, Try.ntmps8
    go_wp2
    refine bodyPost_ret (v := gst none 0 0 0 none 0 0) (by simp [results, Try.results8, go_sem]) rfl ⟨rfl, ?_⟩
    first | exact HB.out | exact ((HB.out.setCell (p := ⟨w.heap.size + 1, 0, none⟩) (by simp) _).setCell (p := ⟨w.heap.size + 1, 1, none⟩) (by simp) _).setCell (p := ⟨w.heap.size + 1, 2, none⟩) (by simp) _
set_option maxHeartbeats 4000000 in
theorem impl_regset (pc x : Int) (k : Nat) (ra ma : Option Addr) (rc n mc : Nat) (rs : List Int) (D : Nat → List Int) (w : World) (hs : XGSeg w ra ma rs n D) (hl : rs.length = 16) (hk : k ≤ 15) (hn : n ≤ 1048576) (ht : btot D n ≤ 1048576) :
    Calls Try.prog 8 #[gst ra 16 rc pc ma n mc, .int .i64 (k : Int), .int .u32 x] w fun e w' => ∃ ra' ma' rc' mc' m, e = .returned (gst ra' 16 rc' pc ma' n mc') ∧ Below w.heap.size w w' ∧ OGst w' w.heap.size m w'.heap.size ra' ma' (setR rs k x) n D ∧ w.heap.size ≤ m ∧ m ≤ w'.heap.size := by
  have B0 := (Bk.new w #[.slice ra 16 rc, .int .u32 pc, .slice ma n mc] 28 w.heap.size rfl).alloc (.cells #[.slice none 0 0, .int .u32 0, .slice none 0 0] 28)
  have B1 := Bk.new (w.alloc (.cells #[.slice ra 16 rc, .int .u32 pc, .slice ma n mc] 28)) #[.slice none 0 0, .int .u32 0, .slice none 0 0] 28 (w.heap.size + 1) (by simp)
  have HB : Hid (Below w.heap.size w ((w.alloc (.cells #[.slice ra 16 rc, .int .u32 pc, .slice ma n mc] 28)).alloc (.cells #[.slice none 0 0, .int .u32 0, .slice none 0 0] 28))) := ((Below.refl _ w).alloc (Nat.le_refl _) _).alloc (by simp) _
  have c0 := B0.cell 0 _ rfl
  have c1 := B0.cell 1 _ rfl
  have c2 := B0.cell 2 _ rfl
  have HIN : Hid _ := (fun (z : Int) (X : World) => is_reg z X) (k : Int)
  rw [inr_yes ⟨by omega, by omega⟩] at HIN
  have HCP : Hid _ := impl_copied pc ra ma 16 rc n mc rs D _ (hs.below HB.out) hl (by omega) hn ht
  have HB1 : Hid (Bk _ (w.heap.size + 1) #[.slice none 0 0, .int .u32 0, .slice none 0 0]) := B1
  have HL : Hid (rs.length = 16) := hl
  have hsz : ((w.alloc (.cells #[.slice ra 16 rc, .int .u32 pc, .slice ma n mc] 28)).alloc (.cells #[.slice none 0 0, .int .u32 0, .slice none 0 0] 28)).heap.size = w.heap.size + 1 + 1 := by simp
  clear B0 B1 hs hl
  go_enter Try.func8, Try.ntmps8
  go_wp2_with fail
  refine (HIN.out _).mono ?_
  rintro u w1 ⟨rfl, rfl⟩
  go_wp2_with fail
  refine Calls.mono HCP.out ?_
  rintro u w3 ⟨ra3, ma3, rc3, mc3, m3, rfl, hb3, ho3, hm31, hm32⟩
  rw [hsz] at hm31
  rw [hsz] at ho3 hb3
  have hz3 := hb3.size
  rw [hsz] at hz3
  have hal : Below w3.heap.size w3 (w3.alloc (.cells #[.slice ra3 16 rc3, .int .u32 pc, .slice ma3 n mc3] 28)) := (Below.refl _ _).alloc (Nat.le_refl _) _
  have V := Bk.new w3 #[.slice ra3 16 rc3, .int .u32 pc, .slice ma3 n mc3] 28 w3.heap.size rfl
  have hb4 : Below w.heap.size w (w3.alloc (.cells #[.slice ra3 16 rc3, .int .u32 pc, .slice ma3 n mc3] 28)) := (HB.out.trans (hb3.mono (by omega))).trans (hal.mono (by omega))
  have K1 := (HB1.out.below (hsz ▸ hb3)).below hal
  obtain ⟨R, hR, hset⟩ := (ho3.below hal).set (by rw [HL.out]; omega)
  have hRr := hR.range (by rw [HL.out]; omega)
  have HSET : Hid _ := hset
  have HF : Hid (Below w.heap.size w _ ∧ Bk _ w3.heap.size #[.slice ra3 16 rc3, .int .u32 pc, .slice ma3 n mc3] ∧ Bk _ (w.heap.size + 1) #[.slice none 0 0, .int .u32 0, .slice none 0 0]) := ⟨hb4, V, K1⟩
  have HST : Hid _ := impl_set ra3 ma3 16 rc3 n mc3 k (w.heap.size + 1 + 1) _ R pc x rs _ hR HL.out (by omega) (by omega)
  have v0 := V.cell 0 _ rfl
  have v1 := V.cell 1 _ rfl
  have v2 := V.cell 2 _ rfl
  clear hset hR V K1 hb4 hal ho3 hb3 c0 c1 c2 HIN HCP
  go_wp2_with fail
  refine Calls.mono HST.out ?_
  rintro u w5 ⟨rfl, hb5, hon5⟩
  have ho5 := HSET.out w5 _ hb5 hon5
  have V5 := HF.out.2.1.betw hb5 (.inr (by omega))
  have K5 := HF.out.2.2.betw hb5 (.inl (by omega))
  have hb6 := HF.out.1.trans (hb5.below (by omega) HF.out.1.size)
  have hz5 := hb5.size
  rw [World.size_alloc] at hz5
  have p0 := V5.cell 0 _ rfl
  have p1 := V5.cell 1 _ rfl
  have p2 := V5.cell 2 _ rfl
  have d0 := K5.cell 0 _ rfl
  have d1 := (K5.set 0 (.slice ra3 16 rc3) (by simp) rfl).cell 1 _ rfl
  have d2 := ((K5.set 0 (.slice ra3 16 rc3) (by simp) rfl).set 1 (.int .u32 pc) (by simp) rfl).cell 2 _ rfl
  have df := K5.free
  have G2 := ((K5.set 0 (.slice ra3 16 rc3) (by simp) rfl).set 1 (.int .u32 pc) (by simp) rfl).set 2 (.slice ma3 n mc3) (by simp) rfl
  have n0 := G2.cell 0 _ rfl
  have n1 := G2.cell 1 _ rfl
  have n2 := G2.cell 2 _ rfl
  have HZ : Hid (OGst _ _ _ _ _ _ _ _ _ ∧ Below w.heap.size w w5) := ⟨ho5, hb6⟩
  clear ho5 hb6 V5 K5 G2 hb5 hon5 HF HSET HST v0 v1 v2
  go_wp2
  refine bodyPost_ret (v := gst ra3 16 rc3 pc ma3 n mc3) (by simp [results, Try.results8, go_sem, n0, n1, n2]) rfl ⟨_, _, _, _, m3, rfl, ((HZ.out.2.setCell (p := ⟨w.heap.size + 1, 0, none⟩) (by simp) _).setCell (p := ⟨w.heap.size + 1, 1, none⟩) (by simp) _).setCell (p := ⟨w.heap.size + 1, 2, none⟩) (by simp) _, ?_, by omega, by simp; omega⟩
  have hbt := ((Betw.refl (w.heap.size + 1) (w.heap.size + 1 + 1) w5).setCell (p := ⟨w.heap.size + 1, 0, none⟩) (by simp) (by simp) (.slice ra3 16 rc3)).setCell (p := ⟨w.heap.size + 1, 1, none⟩) (by simp) (by simp) (.int .u32 pc) |>.setCell (p := ⟨w.heap.size + 1, 2, none⟩) (by simp) (by simp) (.slice ma3 n mc3)
  exact (OGst.betw HZ.out.1 hbt (.inr (Nat.le_refl _)) hm31 hm32).wide (by omega) (by simp; omega)

def noD : Nat → List Int := fun _ => []
theorem btot_no (n : Nat) : btot noD n = 0 := by
  induction n with
  | zero => rfl
  | succ n ih => simp only [btot, ih, noD, List.length_nil]
theorem og_no (w : World) (lo m hi : Nat) : OGst w lo m hi none none [] 0 noD :=
  ⟨⟨0, ON.nil _ _ _ _ _ _⟩, 0, 0, fun _ => none, fun _ => 0, fun _ => 0, fun h => absurd h (by omega), ⟨fun i hi => absurd hi (by omega), fun i hi => absurd hi (by omega), fun i hi => absurd hi (by omega), fun i hi => absurd hi (by omega), fun i j hi => absurd hi (by omega)⟩⟩
/-- What a call that answers with a guest tells: the specification's, the program's own. -/
def GAns (X : World) (rs : List Int) (rl : Nat) (pc : Int) (n : Nat) (D : Nat → List Int) (e : Ending) (w' : World) : Prop :=
  ∃ ra' ma' rc' mc', e = .returned (gst ra' rl rc' pc ma' n mc') ∧ Below X.heap.size X w' ∧ XGSeg w' ra' ma' rs n D
def OAns (X : World) (rs : List Int) (rl : Nat) (pc : Int) (n : Nat) (D : Nat → List Int) (e : Ending) (w' : World) : Prop :=
  ∃ ra' ma' rc' mc' m, e = .returned (gst ra' rl rc' pc ma' n mc') ∧ Below X.heap.size X w' ∧ OGst w' X.heap.size m w'.heap.size ra' ma' rs n D ∧ X.heap.size ≤ m ∧ m ≤ w'.heap.size
theorem rs_alike (pc x k : Int) (rl n : Nat) (rs : List Int) (D : Nat → List Int) (hl : rs.length = rl) (hr : rl ≤ 1048576) (hn : n ≤ 1048576) (ht : btot D n ≤ 1048576) :
    ∃ rs' rl' pc' n' D', rs'.length = rl' ∧ rl' ≤ 1048576 ∧ n' ≤ 1048576 ∧ btot D' n' ≤ 1048576 ∧
      (∀ (X : World) ra1 ma1 c1 c2, XGSeg X ra1 ma1 rs n D → Calls Try.prog 6 #[gst ra1 rl c1 pc ma1 n c2, .int .i64 k, .int .u32 x] X (GAns X rs' rl' pc' n' D')) ∧
      (∀ (X : World) ra1 ma1 c1 c2, XGSeg X ra1 ma1 rs n D → Calls Try.prog 8 #[gst ra1 rl c1 pc ma1 n c2, .int .i64 k, .int .u32 x] X (OAns X rs' rl' pc' n' D')) := by
  by_cases h : rl = 16 ∧ 0 ≤ k ∧ k ≤ 15
  · obtain ⟨rfl, h1, h2⟩ := h
    obtain ⟨K, rfl⟩ := Int.eq_ofNat_of_zero_le h1
    refine ⟨setR rs K x, 16, pc, n, D, by rw [setR_len]; exact hl, by omega, hn, ht, fun X ra1 ma1 c1 c2 hg => ?_, fun X ra1 ma1 c1 c2 hg => ?_⟩
    · refine (spec_regset pc x K ra1 ma1 c1 n c2 rs D X hg hl (by omega) hn ht).mono fun e w' h => ?_
      obtain ⟨ra', ma', rc', mc', he, hb, hs⟩ := h
      exact ⟨ra', ma', rc', mc', he, hb, hs.seg⟩
    · exact impl_regset pc x K ra1 ma1 c1 n c2 rs D X hg hl (by omega) hn ht
  · refine ⟨[], 0, 0, 0, noD, rfl, by omega, by omega, by rw [btot_no]; omega, fun X ra1 ma1 c1 c2 hg => ?_, fun X ra1 ma1 c1 c2 hg => ?_⟩
    · refine (spec_regset_no pc x k ra1 ma1 rl c1 n c2 X h).mono fun e w' hh => ?_
      exact ⟨none, none, 0, 0, hh.1, hh.2, (og_no _ 0 0 0).seg⟩
    · refine (impl_regset_no pc x k ra1 ma1 rl c1 n c2 X h).mono fun e w' hh => ?_
      exact ⟨none, none, 0, 0, X.heap.size, hh.1, hh.2, og_no _ _ _ _, Nat.le_refl _, hh.2.size⟩
end Go.Proofs.Ytjlhkjiccibgdaa
