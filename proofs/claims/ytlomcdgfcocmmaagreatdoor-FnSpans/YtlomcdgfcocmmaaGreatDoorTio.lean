
/-
  The next slot that begins at a cycle or behind it: the program's own function, with its jump back from one frame to the next. Conditions: the slots lie in memory; the tables are sound.
-/
import Derived.Test.YtlomcdgfcocmmaaGreatDoorBas
import Derived.Test.YtlomcdgfcocmmaaGreatDoorTin
import Derived.WalkMore
import Derived.ScopeJumps
namespace Go.Proofs.YtlomcdgfcocmmaaGreatDoor
open Go.ChangeShapes Go.WideShapes Go.ChangeAt Go.RowKit Go.Deep Go.Joins
set_option linter.unusedVariables false

/-- A block that holds a slot. -/
def SRow (X : World) (B : Nat) (cs : Array Value) : Prop := X.heap[B]? = some (.cells cs 42 (0, 0))
theorem SRow.lt {X : World} {B : Nat} {cs : Array Value} (h : SRow X B cs) : B < X.heap.size := by
  rcases Nat.lt_or_ge B X.heap.size with g | g
  · exact g
  · unfold SRow at h; rw [Array.getElem?_eq_none g] at h; cases h
theorem SRow.below {X X' : World} {B : Nat} {cs : Array Value} (h : SRow X B cs) (hb : Below X.heap.size X X') : SRow X' B cs := by
  have := h.lt
  unfold SRow at h ⊢
  rw [hb.block B this]; exact h
theorem SRow.low {X X' : World} {B n : Nat} {cs : Array Value} (h : SRow X B cs) (hb : Below n X X') (hB : B < n) : SRow X' B cs := by
  unfold SRow at h ⊢
  rw [hb.block B hB]; exact h
theorem Bk.set0 {V : World} {N : Nat} {u : Value} (h : Bk V N #[u]) (v : Value) : Bk (V.setCell ⟨N, 0, none⟩ v) N #[v] := by
  have hc : V.cell? ⟨N, 0, none⟩ = some u := h.cell 0 u rfl
  refine ⟨by simpa using h.lt, fun i x hx => ?_, fun i => by simpa using h.free i⟩
  cases i with
  | zero =>
    obtain rfl : v = x := by simpa using hx
    exact World.cell?_setCell_same _ _ _ hc
  | succ i => simp at hx
theorem srow_new (w : World) (cs : Array Value) (B : Nat) (hB : B = w.heap.size) : SRow (w.alloc (.cells cs 42)) B cs := by
  subst hB
  show (w.heap.push _)[w.heap.size]? = _
  simp
theorem res_slot {W : World} {B : Nat} {x y z : Value} {tmps : Array Value} (h : W.heap[B]? = some (.cells #[x, y, z] 42 (0, 0))) (ht : tmps[4]? = some (.pointer (some ⟨B, 0, none⟩))) : (results Tryz.f79 tmps).run Tryz.prog W = .ok (.agg #[x, y, z]) W := by
  have hld : (loadVar 42 ⟨B, 0, none⟩).run Tryz.prog W = .ok (.agg #[x, y, z]) W := run_loadVar_row (P := Tryz.prog) W B 42 42 #[x, y, z] (0, 0) _ h Tryz.underlying42 rfl (by kernel_rfl)
  unfold results
  rw [Tryz.results79]
  simp [ht, asAddr, hld]
set_option maxRecDepth 40000 in
set_option maxHeartbeats 4000000 in
theorem next_turn (t : Tb) (a : Ad) (c : Int) (w : World) (hm : TM 0 w t a) (hw : TW t a) (hs : TS a) (hcs : a.sn ≤ a.sc) (ht : Tm t) (hc : 0 ≤ c) (hc2 : c ≤ 1000000) :
    Calls Tryz.prog 79 #[tbV t a, .int .i64 c] w fun e w' => (∃ (i : Nat) (r : Int), e = .returned (.agg #[.int .i64 (t.ss.getD i sl0).1, .int .i64 r, .int .i64 (t.ss.getD i sl0).2.2]) ∧ TN t c i r) ∧ Below w.heap.size w w' := by
  have HNH : Hid (∀ i, i < t.ss.length → (∀ k, k < t.ss.length → (c % t.maj ≤ (t.ss.getD k sl0).2.1 ↔ i ≤ k)) → TN t c i (c - c % t.maj + (t.ss.getD i sl0).2.1)) := fun i hi hr => next_here ht hi hr
  have HNL : Hid ((∀ k, k < t.ss.length → (t.ss.getD k sl0).2.1 < c % t.maj) → TN t c 0 (c - c % t.maj + t.maj + (t.ss.getD 0 sl0).2.1)) := fun hr => next_later ht (fun k hk => by have := hr k hk; omega)
  have hpp : 0 ≤ c % t.maj ∧ c % t.maj < t.maj := mod_lt ht.maj1
  have hmj : t.maj ≤ 5000 := ht.maj2
  have HF0 : Hid (∃ r, r ≤ t.ss.length ∧ ∀ k, k < t.ss.length → (c % t.maj ≤ (t.ss.getD k sl0).2.1 ↔ r ≤ k)) := start_first ht _
  have hpl : c % t.maj ≤ c := by
    by_cases g : c < t.maj
    · rw [Int.emod_eq_of_lt hc g]; exact Int.le_refl _
    · omega
  have HCP : Hid (∀ X, Calls Tryz.prog 87 #[tbV t a, .int .i64 c] X fun e w' => e = .returned (.int .i64 (c % t.maj)) ∧ Below X.heap.size X w') := fun X => place_of t a c _ X ht.maj1 hc hc2 rfl
  obtain ⟨p, HP⟩ : ∃ p, Hid (c % t.maj = p) := ⟨_, rfl⟩
  rw [HP.out] at HNH HNL hpp HF0 HCP hpl
  obtain ⟨r, hr, HRK⟩ : ∃ r, r ≤ t.ss.length ∧ Hid (∀ k, k < t.ss.length → (p ≤ (t.ss.getD k sl0).2.1 ↔ r ≤ k)) := HF0.out
  have hL : t.ss.length = a.sn := hw.sl
  have hn : a.sn ≤ 1048576 := hs.s
  have HTM : Hid (Tm t) := ht
  have HSL : Hid (∀ X, Below w.heap.size w X → GSeg 3 X a.sa a.sn (slX t.ss)) := fun X hX => (hm.below hX).s.seg
  have HCF : Hid (∀ X B (v : Int) (s : Nat), Below w.heap.size w X → X.cell? ⟨B, 0, none⟩ = some (.int .i64 v) → s ≤ t.ss.length → (∀ k, k < t.ss.length → (v ≤ (t.ss.getD k sl0).2.1 ↔ s ≤ k)) → Calls Tryz.prog 104 #[tbV t a, .func (.func 105) #[] #[.pointer (some ⟨B, 0, none⟩)]] X fun e w' => e = .returned (.int .i64 (s : Int)) ∧ Below X.heap.size X w') := fun X B v s hX hB hs1 hs2 =>
    first_slot t a s 105 #[.pointer (some ⟨B, 0, none⟩)] X (hm.below hX).s.seg hn (by have := ht.n1; omega) hcs (by omega) e_nt1 (fun k hk Y hY =>
      (next_one (t.ss.getD k sl0) v B Y (kept_cell hY hB)).mono fun e w' ⟨he, hb⟩ => ⟨he.trans (ret_bool (decide_eq_decide.2 (hs2 k (by omega)))), hb⟩)
  have HB0 : Hid (Below w.heap.size w (w.alloc (.cells (tbA t a) 33))) := (Below.refl _ _).alloc (Nat.le_refl _) _
  have HX0 : Hid (TBx (w.alloc (.cells (tbA t a) 33)) w.heap.size t a) := TBx.new w t a _ rfl
  have hbA : Below (w.alloc (.cells (tbA t a) 33)).heap.size (w.alloc (.cells (tbA t a) 33)) ((w.alloc (.cells (tbA t a) 33)).alloc (.cells #[.int .i64 0, .int .i64 0, .int .i64 0] 42)) := (Below.refl _ _).alloc (Nat.le_refl _) _
  have HBA : Hid (Below w.heap.size w ((w.alloc (.cells (tbA t a) 33)).alloc (.cells #[.int .i64 0, .int .i64 0, .int .i64 0] 42))) := HB0.out.trans (hbA.mono HB0.out.size)
  have HXA : Hid (TBx ((w.alloc (.cells (tbA t a) 33)).alloc (.cells #[.int .i64 0, .int .i64 0, .int .i64 0] 42)) w.heap.size t a) := HX0.out.below hbA
  have KRA : Hid (SRow ((w.alloc (.cells (tbA t a) 33)).alloc (.cells #[.int .i64 0, .int .i64 0, .int .i64 0] 42)) (w.heap.size + 1) #[.int .i64 0, .int .i64 0, .int .i64 0]) := srow_new (w.alloc (.cells (tbA t a) 33)) #[.int .i64 0, .int .i64 0, .int .i64 0] _ (by simp)
  clear hm hw hs ht hcs HF0 hbA HB0 HX0
  go_enter Tryz.func79, Tryz.ntmps79
  go_wp2
  refine wp_scope_jumps 0 (fun a' w' => ∃ (N : Nat) (u7 u8 u9 u10 u11 u12 u13 u14 u15 u16 u17 u18 u19 u20 u21 u22 u23 u24 u25 u26 u27 u28 u29 u30 u31 u32 u33 u34 u35 u36 u37 : Value), a' = { tmps := #[tbV t a, .int .i64 c, .pointer (some ⟨w.heap.size, 0, none⟩), undef, .pointer (some ⟨w.heap.size + 1, 0, none⟩), .pointer (some ⟨N, 0, none⟩), .int .i64 (c - p + t.maj), u7, u8, u9, u10, u11, u12, u13, u14, u15, u16, u17, u18, u19, u20, u21, u22, u23, u24, u25, u26, u27, u28, u29, u30, u31, u32, u33, u34, u35, u36, u37], defers := [] } ∧ Hid ((∀ k, k < t.ss.length → (t.ss.getD k sl0).2.1 < p) ∧ Below w.heap.size w w' ∧ TBx w' w.heap.size t a ∧ SRow w' (w.heap.size + 1) #[.int .i64 0, .int .i64 0, .int .i64 0] ∧ Bk w' N #[.int .i64 0])) (fun a' _ => 0) rfl ?_ ?_
  · go_wp2_with (first | (refine wpList_load_row rfl 33 (.tmp 2) rfl w.heap.size rfl 33 (tbA t a) (0, 0) _ HXA.out Tryz.underlying33 rfl (by kernel_rfl) ?_) | fail)
    refine Calls.mono (HCP.out _) ?_
    rintro e w1 ⟨rfl, hb1⟩
    have HB1 : Hid (Below w.heap.size w w1) := HBA.out.trans (hb1.mono HBA.out.size)
    have hbV : Below w1.heap.size w1 (w1.alloc (.cells #[.int .i64 p] 3)) := (Below.refl _ _).alloc (Nat.le_refl _) _
    have HBV : Hid (Below w.heap.size w (w1.alloc (.cells #[.int .i64 p] 3))) := HB1.out.trans (hbV.mono HB1.out.size)
    have HXV : Hid (TBx (w1.alloc (.cells #[.int .i64 p] 3)) w.heap.size t a) := (HXA.out.below hb1).below hbV
    have KRV : Hid (SRow (w1.alloc (.cells #[.int .i64 p] 3)) (w.heap.size + 1) #[.int .i64 0, .int .i64 0, .int .i64 0]) := (KRA.out.below hb1).below hbV
    have KPV : Hid (Bk (w1.alloc (.cells #[.int .i64 p] 3)) w1.heap.size #[.int .i64 p]) := Bk.new w1 _ _ _ rfl
    have HN1 : Hid (w.heap.size + 1 < w1.heap.size) := Nat.lt_of_lt_of_le KRA.out.lt hb1.size
    clear hb1 hbV HBA HXA KRA HB1 HCP
    have kp : (w1.alloc (.cells #[.int .i64 p] 3)).cell? ⟨w1.heap.size, 0, none⟩ = some (.int .i64 p) := KPV.out.cell 0 _ rfl
    go_wp2
    go_step3
    go_wp2_with (first | (refine wpList_load_row rfl 33 (.tmp 2) rfl w.heap.size rfl 33 (tbA t a) (0, 0) _ HXV.out Tryz.underlying33 rfl (by kernel_rfl) ?_) | fail)
    revert HBV HXV KRV KPV HN1 kp
    generalize w1.alloc (.cells #[.int .i64 p] 3) = V1
    generalize w1.heap.size = N
    intro HBV HXV KRV KPV HN1 kp
    refine Calls.mono (HCF.out _ _ p r HBV.out kp hr HRK.out) ?_
    rintro e V ⟨rfl, hb2⟩
    have HBW : Hid (Below w.heap.size w V) := HBV.out.trans (hb2.mono HBV.out.size)
    replace HXV : Hid (TBx V w.heap.size t a) := HXV.out.below hb2
    replace KRV : Hid (SRow V (w.heap.size + 1) #[.int .i64 0, .int .i64 0, .int .i64 0]) := KRV.out.below hb2
    replace KPV : Hid (Bk V N #[.int .i64 p]) := KPV.out.below hb2
    clear hb2 HBV kp HCF
    have HBV : Hid (Below w.heap.size w V) := HBW.out
    clear HBW
    by_cases hrn : r < a.sn
    · have HTN : Hid (TN t c r (c - p + (t.ss.getD r sl0).2.1)) := HNH.out r (by omega) HRK.out
      obtain ⟨bd, HBD⟩ : ∃ bd, Hid (c - p = bd) := ⟨_, rfl⟩
      have hbd : 0 ≤ bd ∧ bd ≤ 1000000 := by have := HBD.out; omega
      rw [HBD.out] at HTN ⊢
      obtain ⟨i, hir⟩ : ∃ i, r = i := ⟨_, rfl⟩
      subst hir
      have hi2 : r < a.sn := hrn
      clear HNH HNL HBD KPV HRK
      obtain ⟨b1, o1, hsa, hbl1, p1⟩ := (HSL.out _ HBV.out).at r hi2
      have k18 : V.cell? ⟨w.heap.size, 18, none⟩ = some (.slice (some ⟨b1, o1, none⟩) a.sn a.sc) := by rw [← hsa]; exact HXV.out.cell 18 rfl
      have hx1 := HTM.out.st r (by omega)
      have hx3 := st_lt HTM.out (i := r) (by omega)
      have hi3 : (r : Int) < (a.sn : Int) := by omega
      have hi4 : ((r : Int) == (a.sn : Int)) = false := by simp; omega
      have hi5 : ¬ (r = a.sn) := by omega
      have HKR : Hid (∀ X, Below V.heap.size V X → X.heap[w.heap.size + 1]? = some (.cells #[.int .i64 0, .int .i64 0, .int .i64 0] 42 (0, 0))) := fun X hX => KRV.out.below hX
      simp only [slX] at p1
      generalize hy : t.ss.getD r sl0 = y at p1 HTN hx1 hx3
      obtain ⟨c0, c1, c2⟩ := sl_cells p1
      obtain ⟨x1, x2, x3⟩ := y
      simp only at c0 c1 c2 HTN hx1 hx3
      have HYY : Hid (t.ss.getD r sl0 = (x1, x2, x3)) := hy
      have hw1 : IntKind.i64.wrap (x2 + bd) = x2 + bd := by rw [IntKind.wrap_i64]; omega
      have hbE : Below V.heap.size V (V.alloc (.cells #[.int .i64 x1, .int .i64 (x2 + bd), .int .i64 x3] 42)) := (Below.refl _ _).alloc (Nat.le_refl _) _
      have HKE : Hid ((V.alloc (.cells #[.int .i64 x1, .int .i64 (x2 + bd), .int .i64 x3] 42)).heap[w.heap.size + 1]? = some (.cells #[.int .i64 0, .int .i64 0, .int .i64 0] 42 (0, 0))) := HKR.out _ hbE
      have HBE : Hid (Below w.heap.size w ((V.alloc (.cells #[.int .i64 x1, .int .i64 (x2 + bd), .int .i64 x3] 42)).setRow (w.heap.size + 1) #[.int .i64 x1, .int .i64 (x2 + bd), .int .i64 x3])) := below_setRow (HBV.out.trans (hbE.mono HBV.out.size)) (by omega) _
      have HKF : Hid (((V.alloc (.cells #[.int .i64 x1, .int .i64 (x2 + bd), .int .i64 x3] 42)).setRow (w.heap.size + 1) #[.int .i64 x1, .int .i64 (x2 + bd), .int .i64 x3]).heap[w.heap.size + 1]? = some (.cells #[.int .i64 x1, .int .i64 (x2 + bd), .int .i64 x3] 42 (0, 0))) := setRow_heap _ _ _ _ _ _ HKE.out
      clear p1 hbl1 hy HSL KRV HXV HKR hbE
      go_wp2_with (first | (refine wpList_store_row rfl 42 (.tmp 4) (.tmp 37) rfl (w.heap.size + 1) #[.int .i64 x1, .int .i64 (x2 + bd), .int .i64 x3] rfl rfl 42 #[.int .i64 0, .int .i64 0, .int .i64 0] HKE.out (by kernel_rfl) rfl (by simp [Value.oneCell']) ?_) | fail)
      revert HBE HKF
      generalize (V.alloc (.cells #[.int .i64 x1, .int .i64 (x2 + bd), .int .i64 x3] 42)).setRow (w.heap.size + 1) #[.int .i64 x1, .int .i64 (x2 + bd), .int .i64 x3] = VE
      intro HBE HKF
      go_wp2
      simp only [Exit.jump]
      refine bodyPost_ret (v := .agg #[.int .i64 x1, .int .i64 (x2 + bd), .int .i64 x3]) (res_slot HKF.out rfl) rfl ⟨⟨r, x2 + bd, ?_, ?_⟩, HBE.out⟩
      · rw [HYY.out]
      · rw [show x2 + bd = bd + x2 by omega]; exact HTN.out
    · obtain rfl : r = a.sn := by omega
      have HNO : Hid (∀ k, k < t.ss.length → (t.ss.getD k sl0).2.1 < p) := fun k hk => by
        have := HRK.out k hk
        omega
      have k18 : V.cell? ⟨w.heap.size, 18, none⟩ = some (.slice a.sa a.sn a.sc) := HXV.out.cell 18 rfl
      have k14 : V.cell? ⟨w.heap.size, 14, none⟩ = some (.int .i64 t.maj) := HXV.out.cell 14 rfl
      have kp : V.cell? ⟨N, 0, none⟩ = some (.int .i64 p) := KPV.out.cell 0 _ rfl
      have fp : V.frozen? ⟨N, 0, none⟩ = false := KPV.out.free 0
      have hm1 := HTM.out.maj1
      have hw1 : IntKind.i64.wrap (c - p + t.maj) = c - p + t.maj := by rw [IntKind.wrap_i64]; omega
      have hbS : Below N V (V.setCell ⟨N, 0, none⟩ (.int .i64 0)) := (Below.refl N V).setCell (p := ⟨N, 0, none⟩) (Nat.le_refl _) _
      have HJ : Hid ((∀ k, k < t.ss.length → (t.ss.getD k sl0).2.1 < p) ∧ Below w.heap.size w (V.setCell ⟨N, 0, none⟩ (.int .i64 0)) ∧ TBx (V.setCell ⟨N, 0, none⟩ (.int .i64 0)) w.heap.size t a ∧ SRow (V.setCell ⟨N, 0, none⟩ (.int .i64 0)) (w.heap.size + 1) #[.int .i64 0, .int .i64 0, .int .i64 0] ∧ Bk (V.setCell ⟨N, 0, none⟩ (.int .i64 0)) N #[.int .i64 0]) :=
        ⟨HNO.out, HBV.out.setCell (p := ⟨N, 0, none⟩) (by have := HN1.out; show _ ≤ N; omega) _, HXV.out.low hbS (by have := HN1.out; omega), KRV.out.low hbS (by have := HN1.out; omega), KPV.out.set0 _⟩
      clear HNH HNL HXV KRV KPV HRK HNO hrn hbS HBV
      go_wp2
      go_step3
      refine ⟨rfl, N, _, _, _, _, _, _, _, _, _, _, _, _, _, _, _, _, _, _, _, _, _, _, _, _, _, _, _, _, _, _, _, rfl, HJ.out⟩
  · rintro a' w' ⟨N, u7, u8, u9, u10, u11, u12, u13, u14, u15, u16, u17, u18, u19, u20, u21, u22, u23, u24, u25, u26, u27, u28, u29, u30, u31, u32, u33, u34, u35, u36, u37, rfl, HJ⟩
    have HBV : Hid (Below w.heap.size w w') := HJ.out.2.1
    have HXV : Hid (TBx w' w.heap.size t a) := HJ.out.2.2.1
    have KRV : Hid (SRow w' (w.heap.size + 1) #[.int .i64 0, .int .i64 0, .int .i64 0]) := HJ.out.2.2.2.1
    have kp : w'.cell? ⟨N, 0, none⟩ = some (.int .i64 0) := HJ.out.2.2.2.2.cell 0 _ rfl
    have hn1 := HTM.out.n1
    have hm1 := HTM.out.maj1
    obtain ⟨i, hi2, HTN0, HS0⟩ : ∃ i : Nat, i < a.sn ∧ Hid (TN t c i (c - p + t.maj + (t.ss.getD i sl0).2.1)) ∧ Hid (∀ k, k < t.ss.length → ((0 : Int) ≤ (t.ss.getD k sl0).2.1 ↔ i ≤ k)) := ⟨0, by omega, HNL.out HJ.out.1, fun k hk => ⟨fun _ => Nat.zero_le _, fun _ => HTM.out.st k hk⟩⟩
    obtain ⟨bd, HBD⟩ : ∃ bd, Hid (c - p + t.maj = bd) := ⟨_, rfl⟩
    have hbd : 0 ≤ bd ∧ bd ≤ 1005000 := by have := HBD.out; omega
    have HTN : Hid (TN t c i (bd + (t.ss.getD i sl0).2.1)) := by rw [← HBD.out]; exact HTN0.out
    rw [HBD.out]
    have HCQ : Hid (Calls Tryz.prog 104 #[tbV t a, .func (.func 105) #[] #[.pointer (some ⟨N, 0, none⟩)]] w' fun e w2 => e = .returned (.int .i64 (i : Int)) ∧ Below w'.heap.size w' w2) := HCF.out w' N 0 i HBV.out kp (by omega) HS0.out
    clear HNH HNL HBD HRK HJ HTN0 HS0 HCF HCP HBA HXA KRA
    go_wp2_with (first | (refine wpList_load_row rfl 33 (.tmp 2) rfl w.heap.size rfl 33 (tbA t a) (0, 0) _ HXV.out Tryz.underlying33 rfl (by kernel_rfl) ?_) | fail)
    refine Calls.mono HCQ.out ?_
    rintro e V ⟨rfl, hb2⟩
    have HBW : Hid (Below w.heap.size w V) := HBV.out.trans (hb2.mono HBV.out.size)
    replace HXV : Hid (TBx V w.heap.size t a) := HXV.out.below hb2
    replace KRV : Hid (SRow V (w.heap.size + 1) #[.int .i64 0, .int .i64 0, .int .i64 0]) := KRV.out.below hb2
    clear hb2 HBV kp HCQ
    have HBV : Hid (Below w.heap.size w V) := HBW.out
    clear HBW
    obtain ⟨b1, o1, hsa, hbl1, p1⟩ := (HSL.out _ HBV.out).at i hi2
    have k18 : V.cell? ⟨w.heap.size, 18, none⟩ = some (.slice (some ⟨b1, o1, none⟩) a.sn a.sc) := by rw [← hsa]; exact HXV.out.cell 18 rfl
    have hx1 := HTM.out.st i (by omega)
    have hx3 := st_lt HTM.out (i := i) (by omega)
    have hi3 : (i : Int) < (a.sn : Int) := by omega
    have hi4 : ((i : Int) == (a.sn : Int)) = false := by simp; omega
    have hi5 : ¬ (i = a.sn) := by omega
    have HKR : Hid (∀ X, Below V.heap.size V X → X.heap[w.heap.size + 1]? = some (.cells #[.int .i64 0, .int .i64 0, .int .i64 0] 42 (0, 0))) := fun X hX => KRV.out.below hX
    simp only [slX] at p1
    generalize hy : t.ss.getD i sl0 = y at p1 HTN hx1 hx3
    obtain ⟨c0, c1, c2⟩ := sl_cells p1
    obtain ⟨x1, x2, x3⟩ := y
    simp only at c0 c1 c2 HTN hx1 hx3
    have HYY : Hid (t.ss.getD i sl0 = (x1, x2, x3)) := hy
    have hw1 : IntKind.i64.wrap (x2 + bd) = x2 + bd := by rw [IntKind.wrap_i64]; omega
    have hbE : Below V.heap.size V (V.alloc (.cells #[.int .i64 x1, .int .i64 (x2 + bd), .int .i64 x3] 42)) := (Below.refl _ _).alloc (Nat.le_refl _) _
    have HKE : Hid ((V.alloc (.cells #[.int .i64 x1, .int .i64 (x2 + bd), .int .i64 x3] 42)).heap[w.heap.size + 1]? = some (.cells #[.int .i64 0, .int .i64 0, .int .i64 0] 42 (0, 0))) := HKR.out _ hbE
    have HBE : Hid (Below w.heap.size w ((V.alloc (.cells #[.int .i64 x1, .int .i64 (x2 + bd), .int .i64 x3] 42)).setRow (w.heap.size + 1) #[.int .i64 x1, .int .i64 (x2 + bd), .int .i64 x3])) := below_setRow (HBV.out.trans (hbE.mono HBV.out.size)) (by omega) _
    have HKF : Hid (((V.alloc (.cells #[.int .i64 x1, .int .i64 (x2 + bd), .int .i64 x3] 42)).setRow (w.heap.size + 1) #[.int .i64 x1, .int .i64 (x2 + bd), .int .i64 x3]).heap[w.heap.size + 1]? = some (.cells #[.int .i64 x1, .int .i64 (x2 + bd), .int .i64 x3] 42 (0, 0))) := setRow_heap _ _ _ _ _ _ HKE.out
    clear p1 hbl1 hy HSL KRV HXV HKR hbE
    go_wp2_with (first | (refine wpList_store_row rfl 42 (.tmp 4) (.tmp 37) rfl (w.heap.size + 1) #[.int .i64 x1, .int .i64 (x2 + bd), .int .i64 x3] rfl rfl 42 #[.int .i64 0, .int .i64 0, .int .i64 0] HKE.out (by kernel_rfl) rfl (by simp [Value.oneCell']) ?_) | fail)
    revert HBE HKF
    generalize (V.alloc (.cells #[.int .i64 x1, .int .i64 (x2 + bd), .int .i64 x3] 42)).setRow (w.heap.size + 1) #[.int .i64 x1, .int .i64 (x2 + bd), .int .i64 x3] = VE
    intro HBE HKF
    go_wp2
    simp only [Exit.jump]
    refine bodyPost_ret (v := .agg #[.int .i64 x1, .int .i64 (x2 + bd), .int .i64 x3]) (res_slot HKF.out rfl) rfl ⟨⟨i, x2 + bd, ?_, ?_⟩, HBE.out⟩
    · rw [HYY.out]
    · rw [show x2 + bd = bd + x2 by omega]; exact HTN.out
end Go.Proofs.YtlomcdgfcocmmaaGreatDoor
