
/-
  The first slot of which something is so, and the slot that has a cycle: the program's own functions. Conditions: the slots lie in memory; the tables are sound.
-/
import Derived.Test.YtlomcdgfcocmmaaGreatDoorBas
import Derived.Test.YtlomcdgfcocmmaaGreatDoorTib
namespace Go.Proofs.YtlomcdgfcocmmaaGreatDoor
open Go.ChangeShapes Go.WideShapes Go.ChangeAt Go.RowKit Go.Deep Go.Joins
set_option linter.unusedVariables false

set_option maxRecDepth 40000 in
set_option maxHeartbeats 4000000 in
theorem first_slot (t : Tb) (a : Ad) (r : Nat) (fid : Nat) (caps : Array Value) (w : World) (hs : GSeg 3 w a.sa a.sn (slX t.ss)) (hn : a.sn ≤ 1048576) (h1 : 1 ≤ a.sn) (hcs : a.sn ≤ a.sc) (hr : r ≤ a.sn) (hen : ∀ args (v : World), (callFunc fid args).run Tryz.prog v = .ok (.enter fid args) v)
    (hf : ∀ k, k < a.sn → ∀ Y, Below w.heap.size w Y → Calls Tryz.prog fid (#[slV (t.ss.getD k sl0)] ++ caps) Y fun e w' => e = .returned (.bool (decide (r ≤ k))) ∧ Below Y.heap.size Y w') :
    Calls Tryz.prog 104 #[tbV t a, .func (.func fid) #[] caps] w fun e w' => e = .returned (.int .i64 (r : Int)) ∧ Below w.heap.size w w' := by
  have HB0 : Hid (Below w.heap.size w (w.alloc (.cells (tbA t a) 33))) := (Below.refl _ _).alloc (Nat.le_refl _) _
  have HX0 : Hid (TBx (w.alloc (.cells (tbA t a) 33)) w.heap.size t a) := TBx.new w t a _ rfl
  have hbA : Below (w.alloc (.cells (tbA t a) 33)).heap.size (w.alloc (.cells (tbA t a) 33)) ((w.alloc (.cells (tbA t a) 33)).alloc (.cells #[.func (.func fid) #[] caps] 129)) := (Below.refl _ _).alloc (Nat.le_refl _) _
  have hbB : Below ((w.alloc (.cells (tbA t a) 33)).alloc (.cells #[.func (.func fid) #[] caps] 129)).heap.size ((w.alloc (.cells (tbA t a) 33)).alloc (.cells #[.func (.func fid) #[] caps] 129)) (((w.alloc (.cells (tbA t a) 33)).alloc (.cells #[.func (.func fid) #[] caps] 129)).alloc (.cells #[.slice a.sa a.sn a.sn] 31)) := (Below.refl _ _).alloc (Nat.le_refl _) _
  have HB1 : Hid (Below w.heap.size w ((w.alloc (.cells (tbA t a) 33)).alloc (.cells #[.func (.func fid) #[] caps] 129))) := HB0.out.trans (hbA.mono HB0.out.size)
  have HB2 : Hid (Below w.heap.size w (((w.alloc (.cells (tbA t a) 33)).alloc (.cells #[.func (.func fid) #[] caps] 129)).alloc (.cells #[.slice a.sa a.sn a.sn] 31))) := HB1.out.trans (hbB.mono HB1.out.size)
  have k18 : ((w.alloc (.cells (tbA t a) 33)).alloc (.cells #[.func (.func fid) #[] caps] 129)).cell? ⟨w.heap.size, 18, none⟩ = some (.slice a.sa a.sn a.sc) := kept_cell hbA (HX0.out.cell 18 rfl)
  have KF : Hid ((((w.alloc (.cells (tbA t a) 33)).alloc (.cells #[.func (.func fid) #[] caps] 129)).alloc (.cells #[.slice a.sa a.sn a.sn] 31)).cell? ⟨w.heap.size + 1, 0, none⟩ = some (.func (.func fid) #[] caps)) := kept_cell hbB (cell0 (CellsAt.new (w.alloc (.cells (tbA t a) 33)) [.func (.func fid) #[] caps] _ (w.heap.size + 1) (by simp)) 0 rfl)
  have KS : Hid ((((w.alloc (.cells (tbA t a) 33)).alloc (.cells #[.func (.func fid) #[] caps] 129)).alloc (.cells #[.slice a.sa a.sn a.sn] 31)).cell? ⟨w.heap.size + 1 + 1, 0, none⟩ = some (.slice a.sa a.sn a.sn)) := cell0 (CellsAt.new ((w.alloc (.cells (tbA t a) 33)).alloc (.cells #[.func (.func fid) #[] caps] 129)) [.slice a.sa a.sn a.sn] _ (w.heap.size + 1 + 1) (by simp)) 0 rfl
  have HC : Hid (Calls Tryz.prog 171 #[.int .i64 (a.sn : Int), .func (.func 172) #[] #[.pointer (some ⟨w.heap.size + 1, 0, none⟩), .pointer (some ⟨w.heap.size + 1 + 1, 0, none⟩)]] (((w.alloc (.cells (tbA t a) 33)).alloc (.cells #[.func (.func fid) #[] caps] 129)).alloc (.cells #[.slice a.sa a.sn a.sn] 31)) fun e w' => e = .returned (.int .i64 (r : Int)) ∧ Below (((w.alloc (.cells (tbA t a) 33)).alloc (.cells #[.func (.func fid) #[] caps] 129)).alloc (.cells #[.slice a.sa a.sn a.sn] 31)).heap.size (((w.alloc (.cells (tbA t a) 33)).alloc (.cells #[.func (.func fid) #[] caps] 129)).alloc (.cells #[.slice a.sa a.sn a.sn] 31)) w') :=
    search_any a.sn r 172 #[.pointer (some ⟨w.heap.size + 1, 0, none⟩), .pointer (some ⟨w.heap.size + 1 + 1, 0, none⟩)] (((w.alloc (.cells (tbA t a) 33)).alloc (.cells #[.func (.func fid) #[] caps] 129)).alloc (.cells #[.slice a.sa a.sn a.sn] 31)) hn hr e_fs1
      (fun k hk X hX => first_one t.ss a.sn k a.sa fid caps _ (w.heap.size + 1) (w.heap.size + 1 + 1) X ((hs.below HB2.out).below hX) hk hn hen (kept_cell hX KF.out) (kept_cell hX KS.out)
        (fun Y hY => hf k hk Y ((HB2.out.trans (hX.mono HB2.out.size)).trans (hY.mono (Nat.le_trans HB2.out.size hX.size)))))
  clear hf hs KF KS HX0 hbA hbB hr hen
  go_enter Tryz.func104, Tryz.ntmps104
  go_wp2_with fail
  refine Calls.mono HC.out ?_
  rintro e w1 ⟨rfl, hb⟩
  have HB : Hid (Below w.heap.size w w1) := HB2.out.trans (hb.mono HB2.out.size)
  clear hb HC HB0 HB1 HB2 k18
  go_wp2
  go_ret
  exact ⟨rfl, HB.out⟩
/-- Where what is so of one is so of all behind it, there is a first one. -/
theorem first_ex (P : Nat → Prop) (n : Nat) (hm : ∀ i j, i < j → j < n → P i → P j) : ∃ r, r ≤ n ∧ ∀ k, k < n → (P k ↔ r ≤ k) := by
  induction n with
  | zero => exact ⟨0, by omega, fun k hk => by omega⟩
  | succ n ih =>
    obtain ⟨r, hr, h⟩ := ih (fun i j hi hj => hm i j hi (by omega))
    by_cases g : P n
    · exact ⟨r, by omega, fun k hk => by
        by_cases e : k = n
        · subst e; exact ⟨fun _ => hr, fun _ => g⟩
        · exact h k (by omega)⟩
    · refine ⟨n + 1, by omega, fun k hk => ?_⟩
      by_cases e : k = n
      · subst e; exact ⟨fun q => absurd q g, fun q => by omega⟩
      · exact ⟨fun q => absurd (hm k n (by omega) (by omega) q) g, fun q => by omega⟩
theorem end_first {t : Tb} (h : Tm t) (p : Int) : ∃ r, r ≤ t.ss.length ∧ ∀ k, k < t.ss.length → (p < (t.ss.getD k sl0).2.1 + (t.ss.getD k sl0).2.2 ↔ r ≤ k) :=
  first_ex _ _ (fun i j hi hj g => by
    have h1 := h.od i j hi hj
    have h2 := h.ln j hj
    have := h.pad1
    have := h.grd1
    omega)
theorem slotV_first {t : Tb} (h : Tm t) {p : Int} {r : Nat} (hr : ∀ k, k < t.ss.length → (p < (t.ss.getD k sl0).2.1 + (t.ss.getD k sl0).2.2 ↔ r ≤ k)) (hc : t.ss.length ≤ r ∨ p < (t.ss.getD r sl0).2.1) : slotV t p = -1 := by
  refine slotV_none fun i hi g => ?_
  unfold HasP at g
  have h1 := (hr i hi).1 g.2
  rcases hc with hc | hc
  · omega
  · by_cases e : i = r
    · subst e; omega
    · have h2 := h.od r i (by omega) hi
      have h3 := h.ln r (by omega)
      have := h.pad1
      have := h.grd1
      omega
set_option maxRecDepth 40000 in
set_option maxHeartbeats 4000000 in
theorem slot_at (t : Tb) (a : Ad) (c : Int) (w : World) (hm : TM 0 w t a) (hw : TW t a) (hs : TS a) (hcs : a.sn ≤ a.sc) (ht : Tm t) (hc : 0 ≤ c) (hc2 : c ≤ 1000000) :
    Calls Tryz.prog 107 #[tbV t a, .int .i64 c] w fun e w' => e = .returned (.int .i64 (slotV t (c % t.maj))) ∧ Below w.heap.size w w' := by
  obtain ⟨p, HP⟩ : ∃ p, Hid (c % t.maj = p) := ⟨_, rfl⟩
  obtain ⟨r, hr, HRk⟩ : ∃ r, r ≤ t.ss.length ∧ Hid (∀ k, k < t.ss.length → (p < (t.ss.getD k sl0).2.1 + (t.ss.getD k sl0).2.2 ↔ r ≤ k)) := end_first ht p
  have hL : t.ss.length = a.sn := hw.sl
  rw [hL] at hr
  have hn : a.sn ≤ 1048576 := hs.s
  have HCP : Hid (∀ X, Calls Tryz.prog 87 #[tbV t a, .int .i64 c] X fun e w' => e = .returned (.int .i64 p) ∧ Below X.heap.size X w') := fun X => place_of t a c p X ht.maj1 hc hc2 HP.out
  have HCF : Hid (∀ X B, Below w.heap.size w X → X.cell? ⟨B, 0, none⟩ = some (.int .i64 p) → Calls Tryz.prog 104 #[tbV t a, .func (.func 173) #[] #[.pointer (some ⟨B, 0, none⟩)]] X fun e w' => e = .returned (.int .i64 (r : Int)) ∧ Below X.heap.size X w') := fun X B hX hB =>
    first_slot t a r 173 #[.pointer (some ⟨B, 0, none⟩)] X (hm.below hX).s.seg hn (by have := ht.n1; omega) hcs hr e_sa1 (fun k hk Y hY => by
      have h1 := ht.st k (by omega)
      have h2 := ht.ln k (by omega)
      have h3 := ht.en k (by omega)
      have h4 := ht.pad1
      have h5 := ht.grd1
      have h6 := ht.maj2
      refine (slot_one (t.ss.getD k sl0) p B Y (kept_cell hY hB) ⟨h1, by omega, by omega⟩).mono fun e w' ⟨he, hb⟩ => ⟨he.trans (ret_bool ?_), hb⟩
      exact decide_eq_decide.2 (HRk.out k (by omega)))
  have HSL : Hid (∀ X, Below w.heap.size w X → GSeg 3 X a.sa a.sn (slX t.ss)) := fun X hX => (hm.below hX).s.seg
  have HV1 : Hid (a.sn ≤ r ∨ p < (t.ss.getD r sl0).2.1 → slotV t p = -1) := fun g => slotV_first ht HRk.out (by rw [hL]; exact g)
  have HV2 : Hid (r < a.sn → ¬ p < (t.ss.getD r sl0).2.1 → slotV t p = (r : Int)) := fun g1 g2 => slotV_at ht (by omega) ⟨by omega, (HRk.out r (by omega)).2 (Nat.le_refl _)⟩
  rw [HP.out]
  have HB0 : Hid (Below w.heap.size w (w.alloc (.cells (tbA t a) 33))) := (Below.refl _ _).alloc (Nat.le_refl _) _
  have HX0 : Hid (TBx (w.alloc (.cells (tbA t a) 33)) w.heap.size t a) := TBx.new w t a _ rfl
  clear hm hw hs ht hc hc2 hcs HRk hL
  go_enter Tryz.func107, Tryz.ntmps107
  go_wp2_with (first | (refine wpList_load_row rfl 33 (.tmp 2) rfl w.heap.size rfl 33 (tbA t a) (0, 0) _ HX0.out Tryz.underlying33 rfl (by kernel_rfl) ?_) | fail)
  refine Calls.mono (HCP.out _) ?_
  rintro e w1 ⟨rfl, hb1⟩
  have HB1 : Hid (Below w.heap.size w w1) := HB0.out.trans (hb1.mono HB0.out.size)
  have hbV : Below w1.heap.size w1 (w1.alloc (.cells #[.int .i64 p] 3)) := (Below.refl _ _).alloc (Nat.le_refl _) _
  have HBV : Hid (Below w.heap.size w (w1.alloc (.cells #[.int .i64 p] 3))) := HB1.out.trans (hbV.mono HB1.out.size)
  have HXV : Hid (TBx (w1.alloc (.cells #[.int .i64 p] 3)) w.heap.size t a) := (HX0.out.below hb1).below hbV
  have KV : Hid ((w1.alloc (.cells #[.int .i64 p] 3)).cell? ⟨w1.heap.size, 0, none⟩ = some (.int .i64 p)) := cell0 (CellsAt.new w1 [.int .i64 p] 3 _ rfl) 0 rfl
  clear hb1 hbV HB0 HX0 HB1 HCP
  go_wp2_with (first | (refine wpList_load_row rfl 33 (.tmp 2) rfl w.heap.size rfl 33 (tbA t a) (0, 0) _ HXV.out Tryz.underlying33 rfl (by kernel_rfl) ?_) | fail)
  revert HBV HXV KV
  generalize w1.alloc (.cells #[.int .i64 p] 3) = V1
  generalize w1.heap.size = N1
  intro HBV HXV KV
  refine Calls.mono (HCF.out _ _ HBV.out KV.out) ?_
  rintro e V ⟨rfl, hb2⟩
  have HB2 : Hid (Below w.heap.size w V) := HBV.out.trans (hb2.mono HBV.out.size)
  have k18 : V.cell? ⟨w.heap.size, 18, none⟩ = some (.slice a.sa a.sn a.sc) := (HXV.out.below hb2).cell 18 rfl
  have kp : V.cell? ⟨N1, 0, none⟩ = some (.int .i64 p) := kept_cell hb2 KV.out
  clear hb2 HBV HXV KV HCF
  by_cases hrn : r < a.sn
  rotate_left
  · obtain rfl : r = a.sn := by omega
    have HT : Hid (slotV t p = -1) := HV1.out (.inl (Nat.le_refl _))
    have G18 := fun X => gr_cell (W0 := V) k18 X
    clear HV1 HV2 hrn
    go_wp2
    have hgr := gr_some V
    refine region_alike (by kernel_rfl) (by kernel_rfl) ?_
    repeat (go_big_quiet_step (fail))
    refine wpQuiet_nil ?_
    intro _ hw'
    obtain ⟨X1, rfl⟩ := hw'
    have HBE : Hid (Below w.heap.size w X1.w) := HB2.out.trans (X1.h.mono HB2.out.size)
    generalize X1.w = W2 at HBE ⊢
    clear G18 k18 kp HB2
    go_wp2
    go_ret
    exact ⟨ret_int HT.out.symm, HBE.out⟩
  obtain ⟨b1, o1, hsa, hbl1, p1⟩ := (HSL.out _ HB2.out).at r hrn
  rw [hsa] at k18
  have hrn' : (r : Int) < (a.sn : Int) := by omega
  have hne : ((r : Int) == (a.sn : Int)) = false := by simp; omega
  have hne2 : ¬ ((r : Int) = (a.sn : Int)) := by omega
  have hne3 : ¬ (r = a.sn) := by omega
  simp only [slX] at p1
  generalize t.ss.getD r sl0 = y at p1 HV1 HV2
  obtain ⟨c0, c1, c2⟩ := sl_cells p1
  obtain ⟨x1, x2, x3⟩ := y
  simp only at c0 c1 c2 HV1 HV2
  have G18 := fun X => gr_cell (W0 := V) k18 X
  have Gp := fun X => gr_cell (W0 := V) kp X
  have G1 := fun X => gr_cell (W0 := V) c1 X
  clear p1 hbl1 HSL
  by_cases hlt : p < x2
  · have HT : Hid (slotV t p = -1) := HV1.out (.inr hlt)
    clear HV1 HV2
    go_wp2
    have hgr := gr_some V
    refine region_alike (by kernel_rfl) (by kernel_rfl) ?_
    repeat (go_big_quiet_step (fail))
    refine wpQuiet_nil ?_
    intro _ hw'
    obtain ⟨X1, rfl⟩ := hw'
    have HBE : Hid (Below w.heap.size w X1.w) := HB2.out.trans (X1.h.mono HB2.out.size)
    generalize X1.w = W2 at HBE ⊢
    clear G18 Gp G1 k18 kp c0 c1 c2 HB2
    go_wp2
    go_ret
    exact ⟨ret_int HT.out.symm, HBE.out⟩
  · have HT : Hid (slotV t p = (r : Int)) := HV2.out hrn (by first | exact hlt | omega)
    have hd1 : decide (p < x2) = false := decide_eq_false hlt
    clear HV1 HV2
    go_wp2
    have hgr := gr_some V
    refine region_alike (by kernel_rfl) (by kernel_rfl) ?_
    repeat (first | (go_big_quiet_step (fail)) | (rw [hd1]) | (simp only [hd1]))
    refine wpQuiet_nil ?_
    intro _ hw'
    obtain ⟨X1, rfl⟩ := hw'
    have HBE : Hid (Below w.heap.size w X1.w) := HB2.out.trans (X1.h.mono HB2.out.size)
    generalize X1.w = W2 at HBE ⊢
    clear G18 Gp G1 k18 kp c0 c1 c2 HB2
    go_wp2
    go_ret
    exact ⟨ret_int HT.out.symm, HBE.out⟩
end Go.Proofs.YtlomcdgfcocmmaaGreatDoor
