
/-
  Whether there is a slot, and whether it can be split, by the program. Conditions: the tables are sound; the lists lie in memory; the slot is there.
-/
import Derived.Test.YtmgopppgckgglaaGreatDoorBas
import Derived.Test.YtmgopppgckgglaaGreatDoorJsp
import Derived.Test.YtmgopppgckgglaaGreatDoorRul
import Derived.Test.YtmgopppgckgglaaGreatDoorClo6
namespace Go.Proofs.YtmgopppgckgglaaGreatDoor
open Go.ChangeShapes Go.WideShapes Go.ChangeAt Go.RowKit Go.Deep Go.Joins
set_option linter.unusedVariables false

set_option maxRecDepth 40000 in
set_option maxHeartbeats 8000000 in
theorem has_slot (t : Tb) (a : Ad) (x : Int) (q : Bool) (w : World) (hb : a.sn ≤ 9223372036854775807) (hq : q = true ↔ (0 ≤ x ∧ x < (a.sn : Int))) :
    Calls Tryz.prog 43 #[tbV t a, .int .i64 x] w fun e w' => e = .returned (.bool q) ∧ Below w.heap.size w w' := by
  have HB0 : Hid (Below w.heap.size w (w.alloc (.cells (tbA t a) 33))) := (Below.refl _ _).alloc (Nat.le_refl _) _
  by_cases h0 : 0 ≤ x
  · have HT : Hid (decide (x < (a.sn : Int)) = q) := bool_is hq ⟨fun h => ⟨h0, of_decide_eq_true h⟩, fun h => decide_eq_true h.2⟩
    clear hq
    go_enter Tryz.func43, Tryz.ntmps43
    go_wp2
    go_ret
    exact ⟨ret_bool HT.out, HB0.out⟩
  · have HT : Hid (q = false) := not_true hq (fun h => h0 h.1)
    clear hq
    go_enter Tryz.func43, Tryz.ntmps43
    go_wp2
    go_ret
    exact ⟨ret_bool HT.out.symm, HB0.out⟩
structure RcA (V : World) (T0 P0 S0 I0 F0 L0 K0 P1 P2 Z0 Y0 Q0 : Value) (w' : World) (b0 b1 b2 b3 b4 b5 b6 b7 b8 b9 b10 b11 b12 b13 b14 b15 b16 b17 b18 b19 b20 b21 b22 b23 : Bool) (x7 x8 x9 x10 x11 x12 x13 x14 x15 x16 x17 x18 x19 x20 x21 x22 x23 x24 x25 x26 x27 x28 x29 x6 : Value) : Prop where
  gb : Below V.heap.size V w'
  f0 : b0 = true → x7 = P0
  f1 : b1 = true → x8 = S0
  f2 : b2 = true → x9 = I0
  f3 : b3 = true → x10 = .bool false
  f4 : b4 = true → x11 = .bool false
  f5 : b5 = true → x12 = undef
  f6 : b6 = true → x13 = undef
  f7 : b7 = true → x14 = undef
  f8 : b8 = true → x15 = undef
  f9 : b9 = true → x16 = .bool false
  f10 : b10 = true → x17 = .bool false
  f11 : b11 = true → x18 = undef
  f12 : b12 = true → x19 = undef
  f13 : b13 = true → x20 = undef
  f14 : b14 = true → x21 = undef
  f15 : b15 = true → x22 = undef
  f16 : b16 = true → x23 = undef
  f17 : b17 = true → x24 = undef
  f18 : b18 = true → x25 = undef
  f19 : b19 = true → x26 = undef
  f20 : b20 = true → x27 = undef
  f21 : b21 = true → x28 = undef
  f22 : b22 = true → x29 = .bool false
  f23 : b23 = true → x6 = .bool false
theorem RcA.below {V : World} {T0 P0 S0 I0 F0 L0 K0 P1 P2 Z0 Y0 Q0 : Value} {w' w2 : World} {b0 b1 b2 b3 b4 b5 b6 b7 b8 b9 b10 b11 b12 b13 b14 b15 b16 b17 b18 b19 b20 b21 b22 b23 : Bool} {x7 x8 x9 x10 x11 x12 x13 x14 x15 x16 x17 x18 x19 x20 x21 x22 x23 x24 x25 x26 x27 x28 x29 x6 : Value} (h : RcA V T0 P0 S0 I0 F0 L0 K0 P1 P2 Z0 Y0 Q0 w' b0 b1 b2 b3 b4 b5 b6 b7 b8 b9 b10 b11 b12 b13 b14 b15 b16 b17 b18 b19 b20 b21 b22 b23 x7 x8 x9 x10 x11 x12 x13 x14 x15 x16 x17 x18 x19 x20 x21 x22 x23 x24 x25 x26 x27 x28 x29 x6) (hb : Below w'.heap.size w' w2) : RcA V T0 P0 S0 I0 F0 L0 K0 P1 P2 Z0 Y0 Q0 w2 b0 b1 b2 b3 b4 b5 b6 b7 b8 b9 b10 b11 b12 b13 b14 b15 b16 b17 b18 b19 b20 b21 b22 b23 x7 x8 x9 x10 x11 x12 x13 x14 x15 x16 x17 x18 x19 x20 x21 x22 x23 x24 x25 x26 x27 x28 x29 x6 :=
  ⟨h.gb.trans (hb.mono h.gb.size), h.f0, h.f1, h.f2, h.f3, h.f4, h.f5, h.f6, h.f7, h.f8, h.f9, h.f10, h.f11, h.f12, h.f13, h.f14, h.f15, h.f16, h.f17, h.f18, h.f19, h.f20, h.f21, h.f22, h.f23⟩

structure RcB (V : World) (T0 P0 S0 I0 F0 L0 K0 P1 P2 Z0 Y0 Q0 : Value) (w' : World) (b0 b1 b2 b3 b4 b5 b6 b7 b8 b9 b10 b11 b12 b13 b14 b15 b16 b17 b18 b19 b20 b21 b22 b23 : Bool) (x7 x8 x9 x10 x11 x12 x13 x14 x15 x16 x17 x18 x19 x20 x21 x22 x23 x24 x25 x26 x27 x28 x29 x6 : Value) : Prop where
  gb : Below V.heap.size V w'
  f0 : b0 = true → x7 = P0
  f1 : b1 = true → x8 = S0
  f2 : b2 = true → x9 = I0
  f3 : b3 = true → x10 = .bool true
  f4 : b4 = true → x11 = .bool true
  f5 : b5 = true → x12 = F0
  f6 : b6 = true → x13 = T0
  f7 : b7 = true → x14 = L0
  f8 : b8 = true → x15 = .bool false
  f9 : b9 = true → x16 = .bool false
  f10 : b10 = true → x17 = .bool false
  f11 : b11 = true → x18 = undef
  f12 : b12 = true → x19 = undef
  f13 : b13 = true → x20 = undef
  f14 : b14 = true → x21 = undef
  f15 : b15 = true → x22 = undef
  f16 : b16 = true → x23 = undef
  f17 : b17 = true → x24 = undef
  f18 : b18 = true → x25 = undef
  f19 : b19 = true → x26 = undef
  f20 : b20 = true → x27 = undef
  f21 : b21 = true → x28 = undef
  f22 : b22 = true → x29 = .bool false
  f23 : b23 = true → x6 = .bool false
theorem RcB.below {V : World} {T0 P0 S0 I0 F0 L0 K0 P1 P2 Z0 Y0 Q0 : Value} {w' w2 : World} {b0 b1 b2 b3 b4 b5 b6 b7 b8 b9 b10 b11 b12 b13 b14 b15 b16 b17 b18 b19 b20 b21 b22 b23 : Bool} {x7 x8 x9 x10 x11 x12 x13 x14 x15 x16 x17 x18 x19 x20 x21 x22 x23 x24 x25 x26 x27 x28 x29 x6 : Value} (h : RcB V T0 P0 S0 I0 F0 L0 K0 P1 P2 Z0 Y0 Q0 w' b0 b1 b2 b3 b4 b5 b6 b7 b8 b9 b10 b11 b12 b13 b14 b15 b16 b17 b18 b19 b20 b21 b22 b23 x7 x8 x9 x10 x11 x12 x13 x14 x15 x16 x17 x18 x19 x20 x21 x22 x23 x24 x25 x26 x27 x28 x29 x6) (hb : Below w'.heap.size w' w2) : RcB V T0 P0 S0 I0 F0 L0 K0 P1 P2 Z0 Y0 Q0 w2 b0 b1 b2 b3 b4 b5 b6 b7 b8 b9 b10 b11 b12 b13 b14 b15 b16 b17 b18 b19 b20 b21 b22 b23 x7 x8 x9 x10 x11 x12 x13 x14 x15 x16 x17 x18 x19 x20 x21 x22 x23 x24 x25 x26 x27 x28 x29 x6 :=
  ⟨h.gb.trans (hb.mono h.gb.size), h.f0, h.f1, h.f2, h.f3, h.f4, h.f5, h.f6, h.f7, h.f8, h.f9, h.f10, h.f11, h.f12, h.f13, h.f14, h.f15, h.f16, h.f17, h.f18, h.f19, h.f20, h.f21, h.f22, h.f23⟩

structure RcY (V : World) (T0 P0 S0 I0 F0 L0 K0 P1 P2 Z0 Y0 Q0 : Value) (w' : World) (b0 b1 b2 b3 b4 b5 b6 b7 b8 b9 b10 b11 b12 b13 b14 b15 b16 b17 b18 b19 b20 b21 b22 b23 : Bool) (x7 x8 x9 x10 x11 x12 x13 x14 x15 x16 x17 x18 x19 x20 x21 x22 x23 x24 x25 x26 x27 x28 x29 x6 : Value) : Prop where
  gb : Below V.heap.size V w'
  f0 : b0 = true → x7 = P0
  f1 : b1 = true → x8 = S0
  f2 : b2 = true → x9 = I0
  f3 : b3 = true → x10 = .bool true
  f4 : b4 = true → x11 = .bool true
  f5 : b5 = true → x12 = F0
  f6 : b6 = true → x13 = T0
  f7 : b7 = true → x14 = L0
  f8 : b8 = true → x15 = .bool true
  f9 : b9 = true → x16 = .bool true
  f10 : b10 = true → x17 = .bool true
  f11 : b11 = true → x18 = P0
  f12 : b12 = true → x19 = S0
  f13 : b13 = true → x20 = K0
  f14 : b14 = true → x21 = P1
  f15 : b15 = true → x22 = P2
  f16 : b16 = true → x23 = Z0
  f17 : b17 = true → x24 = F0
  f18 : b18 = true → x25 = Y0
  f19 : b19 = true → x26 = T0
  f20 : b20 = true → x27 = L0
  f21 : b21 = true → x28 = Q0
  f22 : b22 = true → x29 = Q0
  f23 : b23 = true → x6 = Q0
theorem RcY.below {V : World} {T0 P0 S0 I0 F0 L0 K0 P1 P2 Z0 Y0 Q0 : Value} {w' w2 : World} {b0 b1 b2 b3 b4 b5 b6 b7 b8 b9 b10 b11 b12 b13 b14 b15 b16 b17 b18 b19 b20 b21 b22 b23 : Bool} {x7 x8 x9 x10 x11 x12 x13 x14 x15 x16 x17 x18 x19 x20 x21 x22 x23 x24 x25 x26 x27 x28 x29 x6 : Value} (h : RcY V T0 P0 S0 I0 F0 L0 K0 P1 P2 Z0 Y0 Q0 w' b0 b1 b2 b3 b4 b5 b6 b7 b8 b9 b10 b11 b12 b13 b14 b15 b16 b17 b18 b19 b20 b21 b22 b23 x7 x8 x9 x10 x11 x12 x13 x14 x15 x16 x17 x18 x19 x20 x21 x22 x23 x24 x25 x26 x27 x28 x29 x6) (hb : Below w'.heap.size w' w2) : RcY V T0 P0 S0 I0 F0 L0 K0 P1 P2 Z0 Y0 Q0 w2 b0 b1 b2 b3 b4 b5 b6 b7 b8 b9 b10 b11 b12 b13 b14 b15 b16 b17 b18 b19 b20 b21 b22 b23 x7 x8 x9 x10 x11 x12 x13 x14 x15 x16 x17 x18 x19 x20 x21 x22 x23 x24 x25 x26 x27 x28 x29 x6 :=
  ⟨h.gb.trans (hb.mono h.gb.size), h.f0, h.f1, h.f2, h.f3, h.f4, h.f5, h.f6, h.f7, h.f8, h.f9, h.f10, h.f11, h.f12, h.f13, h.f14, h.f15, h.f16, h.f17, h.f18, h.f19, h.f20, h.f21, h.f22, h.f23⟩
set_option maxRecDepth 40000 in
set_option maxHeartbeats 16000000 in
theorem can_split (t : Tb) (a : Ad) (k : Nat) (f : Int) (q : Bool) (w : World) (hm : TM 0 w t a) (hw : TW t a) (hd : Sd t) (hkl : k < t.ss.length) (hf : -9223372036854775808 ≤ f ∧ f ≤ 9223372036854775807) (hq : q = true ↔ CanS t (k : Int) f) :
    Calls Tryz.prog 44 #[tbV t a, .int .i64 (k : Int), .int .i64 f] w fun e w' => e = .returned (.bool q) ∧ Below w.heap.size w w' := by
  have hk : k < a.sn := by rw [← hw.sl]; exact hkl
  have HTM := sd_tm hd
  have hp1 := HTM.pad1
  have hp2 := HTM.pad2
  have hg1 := HTM.grd1
  have hg2 := HTM.grd2
  have hmj := HTM.maj2
  have hst := HTM.st k hkl
  have hln := HTM.ln k hkl
  have hen := HTM.en k hkl
  have HLO0 : ∀ Y, Calls Tryz.prog 40 #[tbV t a] Y fun e w' => e = .returned (.int .i64 (t.pad + t.grd)) ∧ Below Y.heap.size Y w' := fun Y => lost_any t a Y ⟨hp1, hp2⟩ ⟨hg1, hg2⟩
  obtain ⟨b1, o1, hsa, hbl1, p1⟩ := hm.s.seg.at k hk
  obtain ⟨y, hy⟩ : ∃ y, t.ss.getD k sl0 = y := ⟨_, rfl⟩
  simp only [slX] at p1
  have hq2 : q = true ↔ (t.ss.length < 16 ∧ t.pad + t.grd < f ∧ t.pad + t.grd < (t.ss.getD k sl0).2.2 - f) := by
    rw [hq]
    refine ⟨fun h => ⟨h.2.2.1, h.2.2.2.1, by have := h.2.2.2.2; rw [Int.toNat_natCast] at this; exact this⟩, fun h => ⟨hd, ⟨by omega, by omega⟩, h.1, h.2.1, by rw [Int.toNat_natCast]; exact h.2.2⟩⟩
  rw [hy] at p1 hst hln hen hq2
  obtain ⟨z1, z2, z3⟩ := y
  simp only at hst hln hen hq2
  obtain ⟨sn, HSN⟩ : ∃ n, Hid (a.sn = n) := ⟨_, rfl⟩
  obtain ⟨sc, HSC⟩ : ∃ n, Hid (a.sc = n) := ⟨_, rfl⟩
  have hsl : t.ss.length = sn := hw.sl.trans HSN.out
  rw [hsl] at hq2
  have hkn : k < sn := by omega
  have hks : (k : Int) < (sn : Int) := by omega
  obtain ⟨lost, HLL⟩ : ∃ n, Hid (t.pad + t.grd = n) := ⟨_, rfl⟩
  rw [HLL.out] at HLO0 hq2
  have HZB : Hid (2 ≤ lost ∧ 0 ≤ z3 ∧ z3 ≤ 5000) := by have := HLL.out; exact ⟨by omega, by omega, by omega⟩
  have HLO : Hid (∀ Y, Calls Tryz.prog 40 #[tbV t a] Y fun e w' => e = .returned (.int .i64 lost) ∧ Below Y.heap.size Y w') := HLO0
  have HBW0 : Hid (Below w.heap.size w (w.alloc (.cells (tbA t a) 33))) := (Below.refl _ _).alloc (Nat.le_refl _) _
  have HX0 : Hid (TBx (w.alloc (.cells (tbA t a) 33)) w.heap.size t a) := TBx.new w t a _ rfl
  have p2 := p1.below HBW0.out
  have HCX0 : Hid (∀ X, Below (w.alloc (.cells (tbA t a) 33)).heap.size (w.alloc (.cells (tbA t a) 33)) X → X.cell? ⟨w.heap.size, 18, none⟩ = some (.slice (some ⟨b1, o1, none⟩) sn sc) ∧ X.cell? ⟨b1, o1 + k * 3 + 2, none⟩ = some (.int .i64 z3)) := fun X hX => by
    have h1 := (HX0.out.below hX).cell 18 (v := .slice a.sa a.sn a.sc) rfl
    rw [hsa, HSN.out, HSC.out] at h1
    exact ⟨h1, (sl_cells (p2.below hX)).2.2⟩
  have HXB0 : Hid (∀ X, Below (w.alloc (.cells (tbA t a) 33)).heap.size (w.alloc (.cells (tbA t a) 33)) X → X.heap[w.heap.size]? = some (.cells (tbA t a) 33 (0, 0))) := fun X hX => HX0.out.below hX
  clear HLO0 hm hw hsa hbl1 p1 p2 hq hy hd hkl hk HTM hsl
  go_enter Tryz.func44, Tryz.ntmps44
  go_wp2
  revert HBW0 HX0 HCX0 HXB0
  generalize (w.alloc (.cells (tbA t a) 33)) = W1
  intro HBW HX0 HCX HXB
  have HW0 : Hid (Below W1.heap.size W1 W1) := Below.refl _ _
  clear HX0 HSN HSC HLL hst hln hen hp1 hp2 hg1 hg2 hmj
  by_cases h16 : sn < 16
  rotate_left
  · have HK1 : Hid (¬ ((sn : Int) < 16)) := fun h => h16 (by omega)
    have HFIN : Hid (Ending.returned (.bool false) = Ending.returned (.bool q)) := by
      show _ = _
      rw [not_true hq2 (fun h => h16 h.1)]
    clear hq2
    refine wp_region_inv (by kernel_rfl) (by kernel_rfl) (fun A ℓ a' w' => ∃ (x7 x8 x9 x10 x11 x12 x13 x14 x15 x16 x17 x18 x19 x20 x21 x22 x23 x24 x25 x26 x27 x28 x29 x6 : Value), a' = ((((((((((((((((((((((((A.put (some 7) x7).put (some 8) x8).put (some 9) x9).put (some 10) x10).put (some 11) x11).put (some 12) x12).put (some 13) x13).put (some 14) x14).put (some 15) x15).put (some 16) x16).put (some 17) x17).put (some 18) x18).put (some 19) x19).put (some 20) x20).put (some 21) x21).put (some 22) x22).put (some 23) x23).put (some 24) x24).put (some 25) x25).put (some 26) x26).put (some 27) x27).put (some 28) x28).put (some 29) x29).put (some 6) x6) ∧ RcA W1 (tbV t a) (.pointer (some ⟨w.heap.size, 18, none⟩)) (.slice (some ⟨b1, o1, none⟩) sn sc) (.int .i64 (sn : Int)) (.int .i64 f) (.int .i64 lost) (.int .i64 (k : Int)) (.pointer (some ⟨b1, o1 + k * 3, none⟩)) (.pointer (some ⟨b1, o1 + k * 3 + 2, none⟩)) (.int .i64 z3) (.int .i64 (z3 - f)) (.bool q) w' (ℓ 0) (ℓ 1) (ℓ 2) (ℓ 3) (ℓ 4) (ℓ 5) (ℓ 6) (ℓ 7) (ℓ 8) (ℓ 9) (ℓ 10) (ℓ 11) (ℓ 12) (ℓ 13) (ℓ 14) (ℓ 15) (ℓ 16) (ℓ 17) (ℓ 18) (ℓ 19) (ℓ 20) (ℓ 21) (ℓ 22) (ℓ 23) x7 x8 x9 x10 x11 x12 x13 x14 x15 x16 x17 x18 x19 x20 x21 x22 x23 x24 x25 x26 x27 x28 x29 x6) ?_ ?_ ?_ ?_
    · exact ⟨undef, undef, undef, undef, undef, undef, undef, undef, undef, undef, undef, undef, undef, undef, undef, undef, undef, undef, undef, undef, undef, undef, undef, .bool false, (by simp only [Act.put, List.setIfInBounds_toArray, List.set_cons_zero, List.set_cons_succ]), ⟨HW0.out.drew, (fun g => by cases g), (fun g => by cases g), (fun g => by cases g), (fun g => by cases g), (fun g => by cases g), (fun g => by cases g), (fun g => by cases g), (fun g => by cases g), (fun g => by cases g), (fun g => by cases g), (fun g => by cases g), (fun g => by cases g), (fun g => by cases g), (fun g => by cases g), (fun g => by cases g), (fun g => by cases g), (fun g => by cases g), (fun g => by cases g), (fun g => by cases g), (fun g => by cases g), (fun g => by cases g), (fun g => by cases g), (fun g => by cases g), (fun g => by cases g)⟩⟩
    · intro ℓ a' w' hI hall
      obtain ⟨x7, x8, x9, x10, x11, x12, x13, x14, x15, x16, x17, x18, x19, x20, x21, x22, x23, x24, x25, x26, x27, x28, x29, x6, rfl, hr⟩ := hI
      have hall' : ∀ i, i < 24 → ℓ i = true := hall
      obtain rfl := hr.f0 (hall' 0 (by decide))
      obtain rfl := hr.f1 (hall' 1 (by decide))
      obtain rfl := hr.f2 (hall' 2 (by decide))
      obtain rfl := hr.f3 (hall' 3 (by decide))
      obtain rfl := hr.f4 (hall' 4 (by decide))
      obtain rfl := hr.f5 (hall' 5 (by decide))
      obtain rfl := hr.f6 (hall' 6 (by decide))
      obtain rfl := hr.f7 (hall' 7 (by decide))
      obtain rfl := hr.f8 (hall' 8 (by decide))
      obtain rfl := hr.f9 (hall' 9 (by decide))
      obtain rfl := hr.f10 (hall' 10 (by decide))
      obtain rfl := hr.f11 (hall' 11 (by decide))
      obtain rfl := hr.f12 (hall' 12 (by decide))
      obtain rfl := hr.f13 (hall' 13 (by decide))
      obtain rfl := hr.f14 (hall' 14 (by decide))
      obtain rfl := hr.f15 (hall' 15 (by decide))
      obtain rfl := hr.f16 (hall' 16 (by decide))
      obtain rfl := hr.f17 (hall' 17 (by decide))
      obtain rfl := hr.f18 (hall' 18 (by decide))
      obtain rfl := hr.f19 (hall' 19 (by decide))
      obtain rfl := hr.f20 (hall' 20 (by decide))
      obtain rfl := hr.f21 (hall' 21 (by decide))
      obtain rfl := hr.f22 (hall' 22 (by decide))
      obtain rfl := hr.f23 (hall' 23 (by decide))
      have gb : Hid (Below W1.heap.size W1 w') := hr.gb
      clear hall hall' hr
      simp only [Act.put, List.setIfInBounds_toArray, List.set_cons_zero, List.set_cons_succ]
      go_wp2
      go_ret
      exact ⟨HFIN.out, HBW.out.trans (gb.out.mono HBW.out.size)⟩
    · intro ℓ a' w' i o hI ho hi hL hdep K hK
      obtain ⟨x7, x8, x9, x10, x11, x12, x13, x14, x15, x16, x17, x18, x19, x20, x21, x22, x23, x24, x25, x26, x27, x28, x29, x6, rfl, hr⟩ := hI
      have hi7 : i < 24 := hi
      have hcs : i = 0 ∨ i = 1 ∨ i = 2 ∨ i = 3 ∨ i = 4 ∨ i = 5 ∨ i = 6 ∨ i = 7 ∨ i = 8 ∨ i = 9 ∨ i = 10 ∨ i = 11 ∨ i = 12 ∨ i = 13 ∨ i = 14 ∨ i = 15 ∨ i = 16 ∨ i = 17 ∨ i = 18 ∨ i = 19 ∨ i = 20 ∨ i = 21 ∨ i = 22 ∨ i = 23 := by omega
      clear hi hi7
      rcases hcs with rfl | rfl | rfl | rfl | rfl | rfl | rfl | rfl | rfl | rfl | rfl | rfl | rfl | rfl | rfl | rfl | rfl | rfl | rfl | rfl | rfl | rfl | rfl | rfl
      · obtain rfl := Option.some.inj ho
        clear hdep ho
        revert hK
        intro hK
        rw [if_pos (by rfl)]
        try simp only [Act.put, List.setIfInBounds_toArray, List.set_cons_zero, List.set_cons_succ]
        go_simp
        exact hK.out _ _ (fun j => if j = 0 then true else ℓ j) ⟨.pointer (some ⟨w.heap.size, 18, none⟩), x8, x9, x10, x11, x12, x13, x14, x15, x16, x17, x18, x19, x20, x21, x22, x23, x24, x25, x26, x27, x28, x29, x6, (by simp only [Act.put, List.setIfInBounds_toArray, List.set_cons_zero, List.set_cons_succ]), ⟨hr.gb, (fun _ => rfl), hr.f1, hr.f2, hr.f3, hr.f4, hr.f5, hr.f6, hr.f7, hr.f8, hr.f9, hr.f10, hr.f11, hr.f12, hr.f13, hr.f14, hr.f15, hr.f16, hr.f17, hr.f18, hr.f19, hr.f20, hr.f21, hr.f22, hr.f23⟩⟩ (if_pos rfl) (fun j hj => if_neg hj)
      · obtain rfl := Option.some.inj ho
        have g0 : ℓ 0 = true := hdep { on := 0, ground := Ground.data } (by simp) rfl
        clear hdep ho
        revert hK
        obtain rfl := hr.f0 g0
        have hcx := (HCX.out _ hr.gb).1
        intro hK
        rw [if_pos (by rfl)]
        try simp only [Act.put, List.setIfInBounds_toArray, List.set_cons_zero, List.set_cons_succ]
        go_simp
        exact hK.out _ _ (fun j => if j = 1 then true else ℓ j) ⟨.pointer (some ⟨w.heap.size, 18, none⟩), .slice (some ⟨b1, o1, none⟩) sn sc, x9, x10, x11, x12, x13, x14, x15, x16, x17, x18, x19, x20, x21, x22, x23, x24, x25, x26, x27, x28, x29, x6, (by simp only [Act.put, List.setIfInBounds_toArray, List.set_cons_zero, List.set_cons_succ]), ⟨hr.gb, (fun _ => rfl), (fun _ => rfl), hr.f2, hr.f3, hr.f4, hr.f5, hr.f6, hr.f7, hr.f8, hr.f9, hr.f10, hr.f11, hr.f12, hr.f13, hr.f14, hr.f15, hr.f16, hr.f17, hr.f18, hr.f19, hr.f20, hr.f21, hr.f22, hr.f23⟩⟩ (if_pos rfl) (fun j hj => if_neg hj)
      · obtain rfl := Option.some.inj ho
        have g1 : ℓ 1 = true := hdep { on := 1, ground := Ground.data } (by simp) rfl
        clear hdep ho
        revert hK
        obtain rfl := hr.f1 g1
        intro hK
        rw [if_pos (by rfl)]
        try simp only [Act.put, List.setIfInBounds_toArray, List.set_cons_zero, List.set_cons_succ]
        go_simp
        exact hK.out _ _ (fun j => if j = 2 then true else ℓ j) ⟨x7, .slice (some ⟨b1, o1, none⟩) sn sc, .int .i64 (sn : Int), x10, x11, x12, x13, x14, x15, x16, x17, x18, x19, x20, x21, x22, x23, x24, x25, x26, x27, x28, x29, x6, (by simp only [Act.put, List.setIfInBounds_toArray, List.set_cons_zero, List.set_cons_succ]), ⟨hr.gb, hr.f0, (fun _ => rfl), (fun _ => rfl), hr.f3, hr.f4, hr.f5, hr.f6, hr.f7, hr.f8, hr.f9, hr.f10, hr.f11, hr.f12, hr.f13, hr.f14, hr.f15, hr.f16, hr.f17, hr.f18, hr.f19, hr.f20, hr.f21, hr.f22, hr.f23⟩⟩ (if_pos rfl) (fun j hj => if_neg hj)
      · obtain rfl := Option.some.inj ho
        have g2 : ℓ 2 = true := hdep { on := 2, ground := Ground.data } (by simp) rfl
        clear hdep ho
        revert hK
        obtain rfl := hr.f2 g2
        have hb1 := HK1.out
        intro hK
        rw [if_pos (by rfl)]
        try simp only [Act.put, List.setIfInBounds_toArray, List.set_cons_zero, List.set_cons_succ]
        go_simp
        exact hK.out _ _ (fun j => if j = 3 then true else ℓ j) ⟨x7, x8, .int .i64 (sn : Int), .bool false, x11, x12, x13, x14, x15, x16, x17, x18, x19, x20, x21, x22, x23, x24, x25, x26, x27, x28, x29, x6, (by simp only [Act.put, List.setIfInBounds_toArray, List.set_cons_zero, List.set_cons_succ]), ⟨hr.gb, hr.f0, hr.f1, (fun _ => rfl), (fun _ => rfl), hr.f4, hr.f5, hr.f6, hr.f7, hr.f8, hr.f9, hr.f10, hr.f11, hr.f12, hr.f13, hr.f14, hr.f15, hr.f16, hr.f17, hr.f18, hr.f19, hr.f20, hr.f21, hr.f22, hr.f23⟩⟩ (if_pos rfl) (fun j hj => if_neg hj)
      · obtain rfl := Option.some.inj ho
        have g3 : ℓ 3 = true := hdep { on := 3, ground := Ground.data } (by simp) rfl
        clear hdep ho
        revert hK
        obtain rfl := hr.f3 g3
        intro hK
        rw [if_pos (by rfl)]
        try simp only [Act.put, List.setIfInBounds_toArray, List.set_cons_zero, List.set_cons_succ]
        go_simp
        exact hK.out _ _ (fun j => if j = 4 then true else ℓ j) ⟨x7, x8, x9, .bool false, .bool false, x12, x13, x14, x15, x16, x17, x18, x19, x20, x21, x22, x23, x24, x25, x26, x27, x28, x29, x6, (by simp only [Act.put, List.setIfInBounds_toArray, List.set_cons_zero, List.set_cons_succ]), ⟨hr.gb, hr.f0, hr.f1, hr.f2, (fun _ => rfl), (fun _ => rfl), hr.f5, hr.f6, hr.f7, hr.f8, hr.f9, hr.f10, hr.f11, hr.f12, hr.f13, hr.f14, hr.f15, hr.f16, hr.f17, hr.f18, hr.f19, hr.f20, hr.f21, hr.f22, hr.f23⟩⟩ (if_pos rfl) (fun j hj => if_neg hj)
      · obtain rfl := Option.some.inj ho
        have g4 : ℓ 4 = true := hdep { on := 4, ground := Ground.guard } (by simp) rfl
        clear hdep ho
        revert hK
        obtain rfl := hr.f4 g4
        intro hK
        try simp only [Act.put, List.setIfInBounds_toArray, List.set_cons_zero, List.set_cons_succ]
        rw [if_neg (by first | exact fun h => Bool.false_ne_true h | exact fun h => Bool.false_ne_true h.symm)]
        try simp only [List.getElem_toArray, List.getElem_cons_zero, List.getElem_cons_succ, List.set_cons_zero, List.set_cons_succ]
        exact hK.out _ _ (fun j => if j = 5 then true else ℓ j) ⟨x7, x8, x9, x10, .bool false, undef, x13, x14, x15, x16, x17, x18, x19, x20, x21, x22, x23, x24, x25, x26, x27, x28, x29, x6, (by simp only [Act.put, List.setIfInBounds_toArray, List.set_cons_zero, List.set_cons_succ]), ⟨hr.gb, hr.f0, hr.f1, hr.f2, hr.f3, (fun _ => rfl), (fun _ => rfl), hr.f6, hr.f7, hr.f8, hr.f9, hr.f10, hr.f11, hr.f12, hr.f13, hr.f14, hr.f15, hr.f16, hr.f17, hr.f18, hr.f19, hr.f20, hr.f21, hr.f22, hr.f23⟩⟩ (if_pos rfl) (fun j hj => if_neg hj)
      · obtain rfl := Option.some.inj ho
        have g4 : ℓ 4 = true := hdep { on := 4, ground := Ground.guard } (by simp) rfl
        clear hdep ho
        revert hK
        obtain rfl := hr.f4 g4
        intro hK
        try simp only [Act.put, List.setIfInBounds_toArray, List.set_cons_zero, List.set_cons_succ]
        rw [if_neg (by first | exact fun h => Bool.false_ne_true h | exact fun h => Bool.false_ne_true h.symm)]
        try simp only [List.getElem_toArray, List.getElem_cons_zero, List.getElem_cons_succ, List.set_cons_zero, List.set_cons_succ]
        exact hK.out _ _ (fun j => if j = 6 then true else ℓ j) ⟨x7, x8, x9, x10, .bool false, x12, undef, x14, x15, x16, x17, x18, x19, x20, x21, x22, x23, x24, x25, x26, x27, x28, x29, x6, (by simp only [Act.put, List.setIfInBounds_toArray, List.set_cons_zero, List.set_cons_succ]), ⟨hr.gb, hr.f0, hr.f1, hr.f2, hr.f3, (fun _ => rfl), hr.f5, (fun _ => rfl), hr.f7, hr.f8, hr.f9, hr.f10, hr.f11, hr.f12, hr.f13, hr.f14, hr.f15, hr.f16, hr.f17, hr.f18, hr.f19, hr.f20, hr.f21, hr.f22, hr.f23⟩⟩ (if_pos rfl) (fun j hj => if_neg hj)
      · obtain rfl := Option.some.inj ho
        have g4 : ℓ 4 = true := hdep { on := 4, ground := Ground.guard } (by simp) rfl
        clear hdep ho
        revert hK
        obtain rfl := hr.f4 g4
        intro hK
        try simp only [Act.put, List.setIfInBounds_toArray, List.set_cons_zero, List.set_cons_succ]
        rw [if_neg (by first | exact fun h => Bool.false_ne_true h | exact fun h => Bool.false_ne_true h.symm)]
        try simp only [List.getElem_toArray, List.getElem_cons_zero, List.getElem_cons_succ, List.set_cons_zero, List.set_cons_succ]
        exact hK.out _ _ (fun j => if j = 7 then true else ℓ j) ⟨x7, x8, x9, x10, .bool false, x12, x13, undef, x15, x16, x17, x18, x19, x20, x21, x22, x23, x24, x25, x26, x27, x28, x29, x6, (by simp only [Act.put, List.setIfInBounds_toArray, List.set_cons_zero, List.set_cons_succ]), ⟨hr.gb, hr.f0, hr.f1, hr.f2, hr.f3, (fun _ => rfl), hr.f5, hr.f6, (fun _ => rfl), hr.f8, hr.f9, hr.f10, hr.f11, hr.f12, hr.f13, hr.f14, hr.f15, hr.f16, hr.f17, hr.f18, hr.f19, hr.f20, hr.f21, hr.f22, hr.f23⟩⟩ (if_pos rfl) (fun j hj => if_neg hj)
      · obtain rfl := Option.some.inj ho
        have g4 : ℓ 4 = true := hdep { on := 4, ground := Ground.guard } (by simp) rfl
        clear hdep ho
        revert hK
        obtain rfl := hr.f4 g4
        intro hK
        try simp only [Act.put, List.setIfInBounds_toArray, List.set_cons_zero, List.set_cons_succ]
        rw [if_neg (by first | exact fun h => Bool.false_ne_true h | exact fun h => Bool.false_ne_true h.symm)]
        try simp only [List.getElem_toArray, List.getElem_cons_zero, List.getElem_cons_succ, List.set_cons_zero, List.set_cons_succ]
        exact hK.out _ _ (fun j => if j = 8 then true else ℓ j) ⟨x7, x8, x9, x10, .bool false, x12, x13, x14, undef, x16, x17, x18, x19, x20, x21, x22, x23, x24, x25, x26, x27, x28, x29, x6, (by simp only [Act.put, List.setIfInBounds_toArray, List.set_cons_zero, List.set_cons_succ]), ⟨hr.gb, hr.f0, hr.f1, hr.f2, hr.f3, (fun _ => rfl), hr.f5, hr.f6, hr.f7, (fun _ => rfl), hr.f9, hr.f10, hr.f11, hr.f12, hr.f13, hr.f14, hr.f15, hr.f16, hr.f17, hr.f18, hr.f19, hr.f20, hr.f21, hr.f22, hr.f23⟩⟩ (if_pos rfl) (fun j hj => if_neg hj)
      · obtain rfl := Option.some.inj ho
        have g4 : ℓ 4 = true := hdep { on := 4, ground := Ground.data } (by simp) rfl
        have g8 : ℓ 8 = true := hdep { on := 8, ground := Ground.data } (by simp) rfl
        clear hdep ho
        revert hK
        obtain rfl := hr.f4 g4
        obtain rfl := hr.f8 g8
        intro hK
        rw [if_pos (by rfl)]
        try simp only [Act.put, List.setIfInBounds_toArray, List.set_cons_zero, List.set_cons_succ]
        go_simp
        exact hK.out _ _ (fun j => if j = 9 then true else ℓ j) ⟨x7, x8, x9, x10, .bool false, x12, x13, x14, undef, .bool false, x17, x18, x19, x20, x21, x22, x23, x24, x25, x26, x27, x28, x29, x6, (by simp only [Act.put, List.setIfInBounds_toArray, List.set_cons_zero, List.set_cons_succ]), ⟨hr.gb, hr.f0, hr.f1, hr.f2, hr.f3, (fun _ => rfl), hr.f5, hr.f6, hr.f7, (fun _ => rfl), (fun _ => rfl), hr.f10, hr.f11, hr.f12, hr.f13, hr.f14, hr.f15, hr.f16, hr.f17, hr.f18, hr.f19, hr.f20, hr.f21, hr.f22, hr.f23⟩⟩ (if_pos rfl) (fun j hj => if_neg hj)
      · obtain rfl := Option.some.inj ho
        have g9 : ℓ 9 = true := hdep { on := 9, ground := Ground.data } (by simp) rfl
        clear hdep ho
        revert hK
        obtain rfl := hr.f9 g9
        intro hK
        rw [if_pos (by rfl)]
        try simp only [Act.put, List.setIfInBounds_toArray, List.set_cons_zero, List.set_cons_succ]
        go_simp
        exact hK.out _ _ (fun j => if j = 10 then true else ℓ j) ⟨x7, x8, x9, x10, x11, x12, x13, x14, x15, .bool false, .bool false, x18, x19, x20, x21, x22, x23, x24, x25, x26, x27, x28, x29, x6, (by simp only [Act.put, List.setIfInBounds_toArray, List.set_cons_zero, List.set_cons_succ]), ⟨hr.gb, hr.f0, hr.f1, hr.f2, hr.f3, hr.f4, hr.f5, hr.f6, hr.f7, hr.f8, (fun _ => rfl), (fun _ => rfl), hr.f11, hr.f12, hr.f13, hr.f14, hr.f15, hr.f16, hr.f17, hr.f18, hr.f19, hr.f20, hr.f21, hr.f22, hr.f23⟩⟩ (if_pos rfl) (fun j hj => if_neg hj)
      · obtain rfl := Option.some.inj ho
        have g10 : ℓ 10 = true := hdep { on := 10, ground := Ground.guard } (by simp) rfl
        clear hdep ho
        revert hK
        obtain rfl := hr.f10 g10
        intro hK
        try simp only [Act.put, List.setIfInBounds_toArray, List.set_cons_zero, List.set_cons_succ]
        rw [if_neg (by first | exact fun h => Bool.false_ne_true h | exact fun h => Bool.false_ne_true h.symm)]
        try simp only [List.getElem_toArray, List.getElem_cons_zero, List.getElem_cons_succ, List.set_cons_zero, List.set_cons_succ]
        exact hK.out _ _ (fun j => if j = 11 then true else ℓ j) ⟨x7, x8, x9, x10, x11, x12, x13, x14, x15, x16, .bool false, undef, x19, x20, x21, x22, x23, x24, x25, x26, x27, x28, x29, x6, (by simp only [Act.put, List.setIfInBounds_toArray, List.set_cons_zero, List.set_cons_succ]), ⟨hr.gb, hr.f0, hr.f1, hr.f2, hr.f3, hr.f4, hr.f5, hr.f6, hr.f7, hr.f8, hr.f9, (fun _ => rfl), (fun _ => rfl), hr.f12, hr.f13, hr.f14, hr.f15, hr.f16, hr.f17, hr.f18, hr.f19, hr.f20, hr.f21, hr.f22, hr.f23⟩⟩ (if_pos rfl) (fun j hj => if_neg hj)
      · obtain rfl := Option.some.inj ho
        have g10 : ℓ 10 = true := hdep { on := 10, ground := Ground.guard } (by simp) rfl
        clear hdep ho
        revert hK
        obtain rfl := hr.f10 g10
        intro hK
        try simp only [Act.put, List.setIfInBounds_toArray, List.set_cons_zero, List.set_cons_succ]
        rw [if_neg (by first | exact fun h => Bool.false_ne_true h | exact fun h => Bool.false_ne_true h.symm)]
        try simp only [List.getElem_toArray, List.getElem_cons_zero, List.getElem_cons_succ, List.set_cons_zero, List.set_cons_succ]
        exact hK.out _ _ (fun j => if j = 12 then true else ℓ j) ⟨x7, x8, x9, x10, x11, x12, x13, x14, x15, x16, .bool false, x18, undef, x20, x21, x22, x23, x24, x25, x26, x27, x28, x29, x6, (by simp only [Act.put, List.setIfInBounds_toArray, List.set_cons_zero, List.set_cons_succ]), ⟨hr.gb, hr.f0, hr.f1, hr.f2, hr.f3, hr.f4, hr.f5, hr.f6, hr.f7, hr.f8, hr.f9, (fun _ => rfl), hr.f11, (fun _ => rfl), hr.f13, hr.f14, hr.f15, hr.f16, hr.f17, hr.f18, hr.f19, hr.f20, hr.f21, hr.f22, hr.f23⟩⟩ (if_pos rfl) (fun j hj => if_neg hj)
      · obtain rfl := Option.some.inj ho
        have g10 : ℓ 10 = true := hdep { on := 10, ground := Ground.guard } (by simp) rfl
        clear hdep ho
        revert hK
        obtain rfl := hr.f10 g10
        intro hK
        try simp only [Act.put, List.setIfInBounds_toArray, List.set_cons_zero, List.set_cons_succ]
        rw [if_neg (by first | exact fun h => Bool.false_ne_true h | exact fun h => Bool.false_ne_true h.symm)]
        try simp only [List.getElem_toArray, List.getElem_cons_zero, List.getElem_cons_succ, List.set_cons_zero, List.set_cons_succ]
        exact hK.out _ _ (fun j => if j = 13 then true else ℓ j) ⟨x7, x8, x9, x10, x11, x12, x13, x14, x15, x16, .bool false, x18, x19, undef, x21, x22, x23, x24, x25, x26, x27, x28, x29, x6, (by simp only [Act.put, List.setIfInBounds_toArray, List.set_cons_zero, List.set_cons_succ]), ⟨hr.gb, hr.f0, hr.f1, hr.f2, hr.f3, hr.f4, hr.f5, hr.f6, hr.f7, hr.f8, hr.f9, (fun _ => rfl), hr.f11, hr.f12, (fun _ => rfl), hr.f14, hr.f15, hr.f16, hr.f17, hr.f18, hr.f19, hr.f20, hr.f21, hr.f22, hr.f23⟩⟩ (if_pos rfl) (fun j hj => if_neg hj)
      · obtain rfl := Option.some.inj ho
        have g10 : ℓ 10 = true := hdep { on := 10, ground := Ground.guard } (by simp) rfl
        clear hdep ho
        revert hK
        obtain rfl := hr.f10 g10
        intro hK
        try simp only [Act.put, List.setIfInBounds_toArray, List.set_cons_zero, List.set_cons_succ]
        rw [if_neg (by first | exact fun h => Bool.false_ne_true h | exact fun h => Bool.false_ne_true h.symm)]
        try simp only [List.getElem_toArray, List.getElem_cons_zero, List.getElem_cons_succ, List.set_cons_zero, List.set_cons_succ]
        exact hK.out _ _ (fun j => if j = 14 then true else ℓ j) ⟨x7, x8, x9, x10, x11, x12, x13, x14, x15, x16, .bool false, x18, x19, x20, undef, x22, x23, x24, x25, x26, x27, x28, x29, x6, (by simp only [Act.put, List.setIfInBounds_toArray, List.set_cons_zero, List.set_cons_succ]), ⟨hr.gb, hr.f0, hr.f1, hr.f2, hr.f3, hr.f4, hr.f5, hr.f6, hr.f7, hr.f8, hr.f9, (fun _ => rfl), hr.f11, hr.f12, hr.f13, (fun _ => rfl), hr.f15, hr.f16, hr.f17, hr.f18, hr.f19, hr.f20, hr.f21, hr.f22, hr.f23⟩⟩ (if_pos rfl) (fun j hj => if_neg hj)
      · obtain rfl := Option.some.inj ho
        have g10 : ℓ 10 = true := hdep { on := 10, ground := Ground.guard } (by simp) rfl
        clear hdep ho
        revert hK
        obtain rfl := hr.f10 g10
        intro hK
        try simp only [Act.put, List.setIfInBounds_toArray, List.set_cons_zero, List.set_cons_succ]
        rw [if_neg (by first | exact fun h => Bool.false_ne_true h | exact fun h => Bool.false_ne_true h.symm)]
        try simp only [List.getElem_toArray, List.getElem_cons_zero, List.getElem_cons_succ, List.set_cons_zero, List.set_cons_succ]
        exact hK.out _ _ (fun j => if j = 15 then true else ℓ j) ⟨x7, x8, x9, x10, x11, x12, x13, x14, x15, x16, .bool false, x18, x19, x20, x21, undef, x23, x24, x25, x26, x27, x28, x29, x6, (by simp only [Act.put, List.setIfInBounds_toArray, List.set_cons_zero, List.set_cons_succ]), ⟨hr.gb, hr.f0, hr.f1, hr.f2, hr.f3, hr.f4, hr.f5, hr.f6, hr.f7, hr.f8, hr.f9, (fun _ => rfl), hr.f11, hr.f12, hr.f13, hr.f14, (fun _ => rfl), hr.f16, hr.f17, hr.f18, hr.f19, hr.f20, hr.f21, hr.f22, hr.f23⟩⟩ (if_pos rfl) (fun j hj => if_neg hj)
      · obtain rfl := Option.some.inj ho
        have g10 : ℓ 10 = true := hdep { on := 10, ground := Ground.guard } (by simp) rfl
        clear hdep ho
        revert hK
        obtain rfl := hr.f10 g10
        intro hK
        try simp only [Act.put, List.setIfInBounds_toArray, List.set_cons_zero, List.set_cons_succ]
        rw [if_neg (by first | exact fun h => Bool.false_ne_true h | exact fun h => Bool.false_ne_true h.symm)]
        try simp only [List.getElem_toArray, List.getElem_cons_zero, List.getElem_cons_succ, List.set_cons_zero, List.set_cons_succ]
        exact hK.out _ _ (fun j => if j = 16 then true else ℓ j) ⟨x7, x8, x9, x10, x11, x12, x13, x14, x15, x16, .bool false, x18, x19, x20, x21, x22, undef, x24, x25, x26, x27, x28, x29, x6, (by simp only [Act.put, List.setIfInBounds_toArray, List.set_cons_zero, List.set_cons_succ]), ⟨hr.gb, hr.f0, hr.f1, hr.f2, hr.f3, hr.f4, hr.f5, hr.f6, hr.f7, hr.f8, hr.f9, (fun _ => rfl), hr.f11, hr.f12, hr.f13, hr.f14, hr.f15, (fun _ => rfl), hr.f17, hr.f18, hr.f19, hr.f20, hr.f21, hr.f22, hr.f23⟩⟩ (if_pos rfl) (fun j hj => if_neg hj)
      · obtain rfl := Option.some.inj ho
        have g10 : ℓ 10 = true := hdep { on := 10, ground := Ground.guard } (by simp) rfl
        clear hdep ho
        revert hK
        obtain rfl := hr.f10 g10
        intro hK
        try simp only [Act.put, List.setIfInBounds_toArray, List.set_cons_zero, List.set_cons_succ]
        rw [if_neg (by first | exact fun h => Bool.false_ne_true h | exact fun h => Bool.false_ne_true h.symm)]
        try simp only [List.getElem_toArray, List.getElem_cons_zero, List.getElem_cons_succ, List.set_cons_zero, List.set_cons_succ]
        exact hK.out _ _ (fun j => if j = 17 then true else ℓ j) ⟨x7, x8, x9, x10, x11, x12, x13, x14, x15, x16, .bool false, x18, x19, x20, x21, x22, x23, undef, x25, x26, x27, x28, x29, x6, (by simp only [Act.put, List.setIfInBounds_toArray, List.set_cons_zero, List.set_cons_succ]), ⟨hr.gb, hr.f0, hr.f1, hr.f2, hr.f3, hr.f4, hr.f5, hr.f6, hr.f7, hr.f8, hr.f9, (fun _ => rfl), hr.f11, hr.f12, hr.f13, hr.f14, hr.f15, hr.f16, (fun _ => rfl), hr.f18, hr.f19, hr.f20, hr.f21, hr.f22, hr.f23⟩⟩ (if_pos rfl) (fun j hj => if_neg hj)
      · obtain rfl := Option.some.inj ho
        have g10 : ℓ 10 = true := hdep { on := 10, ground := Ground.guard } (by simp) rfl
        clear hdep ho
        revert hK
        obtain rfl := hr.f10 g10
        intro hK
        try simp only [Act.put, List.setIfInBounds_toArray, List.set_cons_zero, List.set_cons_succ]
        rw [if_neg (by first | exact fun h => Bool.false_ne_true h | exact fun h => Bool.false_ne_true h.symm)]
        try simp only [List.getElem_toArray, List.getElem_cons_zero, List.getElem_cons_succ, List.set_cons_zero, List.set_cons_succ]
        exact hK.out _ _ (fun j => if j = 18 then true else ℓ j) ⟨x7, x8, x9, x10, x11, x12, x13, x14, x15, x16, .bool false, x18, x19, x20, x21, x22, x23, x24, undef, x26, x27, x28, x29, x6, (by simp only [Act.put, List.setIfInBounds_toArray, List.set_cons_zero, List.set_cons_succ]), ⟨hr.gb, hr.f0, hr.f1, hr.f2, hr.f3, hr.f4, hr.f5, hr.f6, hr.f7, hr.f8, hr.f9, (fun _ => rfl), hr.f11, hr.f12, hr.f13, hr.f14, hr.f15, hr.f16, hr.f17, (fun _ => rfl), hr.f19, hr.f20, hr.f21, hr.f22, hr.f23⟩⟩ (if_pos rfl) (fun j hj => if_neg hj)
      · obtain rfl := Option.some.inj ho
        have g10 : ℓ 10 = true := hdep { on := 10, ground := Ground.guard } (by simp) rfl
        clear hdep ho
        revert hK
        obtain rfl := hr.f10 g10
        intro hK
        try simp only [Act.put, List.setIfInBounds_toArray, List.set_cons_zero, List.set_cons_succ]
        rw [if_neg (by first | exact fun h => Bool.false_ne_true h | exact fun h => Bool.false_ne_true h.symm)]
        try simp only [List.getElem_toArray, List.getElem_cons_zero, List.getElem_cons_succ, List.set_cons_zero, List.set_cons_succ]
        exact hK.out _ _ (fun j => if j = 19 then true else ℓ j) ⟨x7, x8, x9, x10, x11, x12, x13, x14, x15, x16, .bool false, x18, x19, x20, x21, x22, x23, x24, x25, undef, x27, x28, x29, x6, (by simp only [Act.put, List.setIfInBounds_toArray, List.set_cons_zero, List.set_cons_succ]), ⟨hr.gb, hr.f0, hr.f1, hr.f2, hr.f3, hr.f4, hr.f5, hr.f6, hr.f7, hr.f8, hr.f9, (fun _ => rfl), hr.f11, hr.f12, hr.f13, hr.f14, hr.f15, hr.f16, hr.f17, hr.f18, (fun _ => rfl), hr.f20, hr.f21, hr.f22, hr.f23⟩⟩ (if_pos rfl) (fun j hj => if_neg hj)
      · obtain rfl := Option.some.inj ho
        have g10 : ℓ 10 = true := hdep { on := 10, ground := Ground.guard } (by simp) rfl
        clear hdep ho
        revert hK
        obtain rfl := hr.f10 g10
        intro hK
        try simp only [Act.put, List.setIfInBounds_toArray, List.set_cons_zero, List.set_cons_succ]
        rw [if_neg (by first | exact fun h => Bool.false_ne_true h | exact fun h => Bool.false_ne_true h.symm)]
        try simp only [List.getElem_toArray, List.getElem_cons_zero, List.getElem_cons_succ, List.set_cons_zero, List.set_cons_succ]
        exact hK.out _ _ (fun j => if j = 20 then true else ℓ j) ⟨x7, x8, x9, x10, x11, x12, x13, x14, x15, x16, .bool false, x18, x19, x20, x21, x22, x23, x24, x25, x26, undef, x28, x29, x6, (by simp only [Act.put, List.setIfInBounds_toArray, List.set_cons_zero, List.set_cons_succ]), ⟨hr.gb, hr.f0, hr.f1, hr.f2, hr.f3, hr.f4, hr.f5, hr.f6, hr.f7, hr.f8, hr.f9, (fun _ => rfl), hr.f11, hr.f12, hr.f13, hr.f14, hr.f15, hr.f16, hr.f17, hr.f18, hr.f19, (fun _ => rfl), hr.f21, hr.f22, hr.f23⟩⟩ (if_pos rfl) (fun j hj => if_neg hj)
      · obtain rfl := Option.some.inj ho
        have g10 : ℓ 10 = true := hdep { on := 10, ground := Ground.guard } (by simp) rfl
        clear hdep ho
        revert hK
        obtain rfl := hr.f10 g10
        intro hK
        try simp only [Act.put, List.setIfInBounds_toArray, List.set_cons_zero, List.set_cons_succ]
        rw [if_neg (by first | exact fun h => Bool.false_ne_true h | exact fun h => Bool.false_ne_true h.symm)]
        try simp only [List.getElem_toArray, List.getElem_cons_zero, List.getElem_cons_succ, List.set_cons_zero, List.set_cons_succ]
        exact hK.out _ _ (fun j => if j = 21 then true else ℓ j) ⟨x7, x8, x9, x10, x11, x12, x13, x14, x15, x16, .bool false, x18, x19, x20, x21, x22, x23, x24, x25, x26, x27, undef, x29, x6, (by simp only [Act.put, List.setIfInBounds_toArray, List.set_cons_zero, List.set_cons_succ]), ⟨hr.gb, hr.f0, hr.f1, hr.f2, hr.f3, hr.f4, hr.f5, hr.f6, hr.f7, hr.f8, hr.f9, (fun _ => rfl), hr.f11, hr.f12, hr.f13, hr.f14, hr.f15, hr.f16, hr.f17, hr.f18, hr.f19, hr.f20, (fun _ => rfl), hr.f22, hr.f23⟩⟩ (if_pos rfl) (fun j hj => if_neg hj)
      · obtain rfl := Option.some.inj ho
        have g10 : ℓ 10 = true := hdep { on := 10, ground := Ground.data } (by simp) rfl
        have g21 : ℓ 21 = true := hdep { on := 21, ground := Ground.data } (by simp) rfl
        clear hdep ho
        revert hK
        obtain rfl := hr.f10 g10
        obtain rfl := hr.f21 g21
        intro hK
        rw [if_pos (by rfl)]
        try simp only [Act.put, List.setIfInBounds_toArray, List.set_cons_zero, List.set_cons_succ]
        go_simp
        exact hK.out _ _ (fun j => if j = 22 then true else ℓ j) ⟨x7, x8, x9, x10, x11, x12, x13, x14, x15, x16, .bool false, x18, x19, x20, x21, x22, x23, x24, x25, x26, x27, undef, .bool false, x6, (by simp only [Act.put, List.setIfInBounds_toArray, List.set_cons_zero, List.set_cons_succ]), ⟨hr.gb, hr.f0, hr.f1, hr.f2, hr.f3, hr.f4, hr.f5, hr.f6, hr.f7, hr.f8, hr.f9, (fun _ => rfl), hr.f11, hr.f12, hr.f13, hr.f14, hr.f15, hr.f16, hr.f17, hr.f18, hr.f19, hr.f20, (fun _ => rfl), (fun _ => rfl), hr.f23⟩⟩ (if_pos rfl) (fun j hj => if_neg hj)
      · obtain rfl := Option.some.inj ho
        have g22 : ℓ 22 = true := hdep { on := 22, ground := Ground.data } (by simp) rfl
        clear hdep ho
        revert hK
        obtain rfl := hr.f22 g22
        intro hK
        rw [if_pos (by rfl)]
        try simp only [Act.put, List.setIfInBounds_toArray, List.set_cons_zero, List.set_cons_succ]
        go_simp
        exact hK.out _ _ (fun j => if j = 23 then true else ℓ j) ⟨x7, x8, x9, x10, x11, x12, x13, x14, x15, x16, x17, x18, x19, x20, x21, x22, x23, x24, x25, x26, x27, x28, .bool false, .bool false, (by simp only [Act.put, List.setIfInBounds_toArray, List.set_cons_zero, List.set_cons_succ]), ⟨hr.gb, hr.f0, hr.f1, hr.f2, hr.f3, hr.f4, hr.f5, hr.f6, hr.f7, hr.f8, hr.f9, hr.f10, hr.f11, hr.f12, hr.f13, hr.f14, hr.f15, hr.f16, hr.f17, hr.f18, hr.f19, hr.f20, hr.f21, (fun _ => rfl), (fun _ => rfl)⟩⟩ (if_pos rfl) (fun j hj => if_neg hj)
    · rintro a' w' ℓ ℓ' hℓ hI
      rw [← show ℓ = ℓ' from funext hℓ]
      exact hI
  have HK1 : Hid ((sn : Int) < 16) := by show _ < _; omega
  by_cases hlf : lost < f
  rotate_left
  · have HK2 : Hid (¬ (lost < f)) := hlf
    have HFIN : Hid (Ending.returned (.bool false) = Ending.returned (.bool q)) := by
      show _ = _
      rw [not_true hq2 (fun h => hlf h.2.1)]
    clear hq2
    refine wp_region_inv (by kernel_rfl) (by kernel_rfl) (fun A ℓ a' w' => ∃ (x7 x8 x9 x10 x11 x12 x13 x14 x15 x16 x17 x18 x19 x20 x21 x22 x23 x24 x25 x26 x27 x28 x29 x6 : Value), a' = ((((((((((((((((((((((((A.put (some 7) x7).put (some 8) x8).put (some 9) x9).put (some 10) x10).put (some 11) x11).put (some 12) x12).put (some 13) x13).put (some 14) x14).put (some 15) x15).put (some 16) x16).put (some 17) x17).put (some 18) x18).put (some 19) x19).put (some 20) x20).put (some 21) x21).put (some 22) x22).put (some 23) x23).put (some 24) x24).put (some 25) x25).put (some 26) x26).put (some 27) x27).put (some 28) x28).put (some 29) x29).put (some 6) x6) ∧ RcB W1 (tbV t a) (.pointer (some ⟨w.heap.size, 18, none⟩)) (.slice (some ⟨b1, o1, none⟩) sn sc) (.int .i64 (sn : Int)) (.int .i64 f) (.int .i64 lost) (.int .i64 (k : Int)) (.pointer (some ⟨b1, o1 + k * 3, none⟩)) (.pointer (some ⟨b1, o1 + k * 3 + 2, none⟩)) (.int .i64 z3) (.int .i64 (z3 - f)) (.bool q) w' (ℓ 0) (ℓ 1) (ℓ 2) (ℓ 3) (ℓ 4) (ℓ 5) (ℓ 6) (ℓ 7) (ℓ 8) (ℓ 9) (ℓ 10) (ℓ 11) (ℓ 12) (ℓ 13) (ℓ 14) (ℓ 15) (ℓ 16) (ℓ 17) (ℓ 18) (ℓ 19) (ℓ 20) (ℓ 21) (ℓ 22) (ℓ 23) x7 x8 x9 x10 x11 x12 x13 x14 x15 x16 x17 x18 x19 x20 x21 x22 x23 x24 x25 x26 x27 x28 x29 x6) ?_ ?_ ?_ ?_
    · exact ⟨undef, undef, undef, undef, undef, undef, undef, undef, undef, undef, undef, undef, undef, undef, undef, undef, undef, undef, undef, undef, undef, undef, undef, .bool false, (by simp only [Act.put, List.setIfInBounds_toArray, List.set_cons_zero, List.set_cons_succ]), ⟨HW0.out.drew, (fun g => by cases g), (fun g => by cases g), (fun g => by cases g), (fun g => by cases g), (fun g => by cases g), (fun g => by cases g), (fun g => by cases g), (fun g => by cases g), (fun g => by cases g), (fun g => by cases g), (fun g => by cases g), (fun g => by cases g), (fun g => by cases g), (fun g => by cases g), (fun g => by cases g), (fun g => by cases g), (fun g => by cases g), (fun g => by cases g), (fun g => by cases g), (fun g => by cases g), (fun g => by cases g), (fun g => by cases g), (fun g => by cases g), (fun g => by cases g)⟩⟩
    · intro ℓ a' w' hI hall
      obtain ⟨x7, x8, x9, x10, x11, x12, x13, x14, x15, x16, x17, x18, x19, x20, x21, x22, x23, x24, x25, x26, x27, x28, x29, x6, rfl, hr⟩ := hI
      have hall' : ∀ i, i < 24 → ℓ i = true := hall
      obtain rfl := hr.f0 (hall' 0 (by decide))
      obtain rfl := hr.f1 (hall' 1 (by decide))
      obtain rfl := hr.f2 (hall' 2 (by decide))
      obtain rfl := hr.f3 (hall' 3 (by decide))
      obtain rfl := hr.f4 (hall' 4 (by decide))
      obtain rfl := hr.f5 (hall' 5 (by decide))
      obtain rfl := hr.f6 (hall' 6 (by decide))
      obtain rfl := hr.f7 (hall' 7 (by decide))
      obtain rfl := hr.f8 (hall' 8 (by decide))
      obtain rfl := hr.f9 (hall' 9 (by decide))
      obtain rfl := hr.f10 (hall' 10 (by decide))
      obtain rfl := hr.f11 (hall' 11 (by decide))
      obtain rfl := hr.f12 (hall' 12 (by decide))
      obtain rfl := hr.f13 (hall' 13 (by decide))
      obtain rfl := hr.f14 (hall' 14 (by decide))
      obtain rfl := hr.f15 (hall' 15 (by decide))
      obtain rfl := hr.f16 (hall' 16 (by decide))
      obtain rfl := hr.f17 (hall' 17 (by decide))
      obtain rfl := hr.f18 (hall' 18 (by decide))
      obtain rfl := hr.f19 (hall' 19 (by decide))
      obtain rfl := hr.f20 (hall' 20 (by decide))
      obtain rfl := hr.f21 (hall' 21 (by decide))
      obtain rfl := hr.f22 (hall' 22 (by decide))
      obtain rfl := hr.f23 (hall' 23 (by decide))
      have gb : Hid (Below W1.heap.size W1 w') := hr.gb
      clear hall hall' hr
      simp only [Act.put, List.setIfInBounds_toArray, List.set_cons_zero, List.set_cons_succ]
      go_wp2
      go_ret
      exact ⟨HFIN.out, HBW.out.trans (gb.out.mono HBW.out.size)⟩
    · intro ℓ a' w' i o hI ho hi hL hdep K hK
      obtain ⟨x7, x8, x9, x10, x11, x12, x13, x14, x15, x16, x17, x18, x19, x20, x21, x22, x23, x24, x25, x26, x27, x28, x29, x6, rfl, hr⟩ := hI
      have hi7 : i < 24 := hi
      have hcs : i = 0 ∨ i = 1 ∨ i = 2 ∨ i = 3 ∨ i = 4 ∨ i = 5 ∨ i = 6 ∨ i = 7 ∨ i = 8 ∨ i = 9 ∨ i = 10 ∨ i = 11 ∨ i = 12 ∨ i = 13 ∨ i = 14 ∨ i = 15 ∨ i = 16 ∨ i = 17 ∨ i = 18 ∨ i = 19 ∨ i = 20 ∨ i = 21 ∨ i = 22 ∨ i = 23 := by omega
      clear hi hi7
      rcases hcs with rfl | rfl | rfl | rfl | rfl | rfl | rfl | rfl | rfl | rfl | rfl | rfl | rfl | rfl | rfl | rfl | rfl | rfl | rfl | rfl | rfl | rfl | rfl | rfl
      · obtain rfl := Option.some.inj ho
        clear hdep ho
        revert hK
        intro hK
        rw [if_pos (by rfl)]
        try simp only [Act.put, List.setIfInBounds_toArray, List.set_cons_zero, List.set_cons_succ]
        go_simp
        exact hK.out _ _ (fun j => if j = 0 then true else ℓ j) ⟨.pointer (some ⟨w.heap.size, 18, none⟩), x8, x9, x10, x11, x12, x13, x14, x15, x16, x17, x18, x19, x20, x21, x22, x23, x24, x25, x26, x27, x28, x29, x6, (by simp only [Act.put, List.setIfInBounds_toArray, List.set_cons_zero, List.set_cons_succ]), ⟨hr.gb, (fun _ => rfl), hr.f1, hr.f2, hr.f3, hr.f4, hr.f5, hr.f6, hr.f7, hr.f8, hr.f9, hr.f10, hr.f11, hr.f12, hr.f13, hr.f14, hr.f15, hr.f16, hr.f17, hr.f18, hr.f19, hr.f20, hr.f21, hr.f22, hr.f23⟩⟩ (if_pos rfl) (fun j hj => if_neg hj)
      · obtain rfl := Option.some.inj ho
        have g0 : ℓ 0 = true := hdep { on := 0, ground := Ground.data } (by simp) rfl
        clear hdep ho
        revert hK
        obtain rfl := hr.f0 g0
        have hcx := (HCX.out _ hr.gb).1
        intro hK
        rw [if_pos (by rfl)]
        try simp only [Act.put, List.setIfInBounds_toArray, List.set_cons_zero, List.set_cons_succ]
        go_simp
        exact hK.out _ _ (fun j => if j = 1 then true else ℓ j) ⟨.pointer (some ⟨w.heap.size, 18, none⟩), .slice (some ⟨b1, o1, none⟩) sn sc, x9, x10, x11, x12, x13, x14, x15, x16, x17, x18, x19, x20, x21, x22, x23, x24, x25, x26, x27, x28, x29, x6, (by simp only [Act.put, List.setIfInBounds_toArray, List.set_cons_zero, List.set_cons_succ]), ⟨hr.gb, (fun _ => rfl), (fun _ => rfl), hr.f2, hr.f3, hr.f4, hr.f5, hr.f6, hr.f7, hr.f8, hr.f9, hr.f10, hr.f11, hr.f12, hr.f13, hr.f14, hr.f15, hr.f16, hr.f17, hr.f18, hr.f19, hr.f20, hr.f21, hr.f22, hr.f23⟩⟩ (if_pos rfl) (fun j hj => if_neg hj)
      · obtain rfl := Option.some.inj ho
        have g1 : ℓ 1 = true := hdep { on := 1, ground := Ground.data } (by simp) rfl
        clear hdep ho
        revert hK
        obtain rfl := hr.f1 g1
        intro hK
        rw [if_pos (by rfl)]
        try simp only [Act.put, List.setIfInBounds_toArray, List.set_cons_zero, List.set_cons_succ]
        go_simp
        exact hK.out _ _ (fun j => if j = 2 then true else ℓ j) ⟨x7, .slice (some ⟨b1, o1, none⟩) sn sc, .int .i64 (sn : Int), x10, x11, x12, x13, x14, x15, x16, x17, x18, x19, x20, x21, x22, x23, x24, x25, x26, x27, x28, x29, x6, (by simp only [Act.put, List.setIfInBounds_toArray, List.set_cons_zero, List.set_cons_succ]), ⟨hr.gb, hr.f0, (fun _ => rfl), (fun _ => rfl), hr.f3, hr.f4, hr.f5, hr.f6, hr.f7, hr.f8, hr.f9, hr.f10, hr.f11, hr.f12, hr.f13, hr.f14, hr.f15, hr.f16, hr.f17, hr.f18, hr.f19, hr.f20, hr.f21, hr.f22, hr.f23⟩⟩ (if_pos rfl) (fun j hj => if_neg hj)
      · obtain rfl := Option.some.inj ho
        have g2 : ℓ 2 = true := hdep { on := 2, ground := Ground.data } (by simp) rfl
        clear hdep ho
        revert hK
        obtain rfl := hr.f2 g2
        have hb1 := HK1.out
        intro hK
        rw [if_pos (by rfl)]
        try simp only [Act.put, List.setIfInBounds_toArray, List.set_cons_zero, List.set_cons_succ]
        go_simp
        exact hK.out _ _ (fun j => if j = 3 then true else ℓ j) ⟨x7, x8, .int .i64 (sn : Int), .bool true, x11, x12, x13, x14, x15, x16, x17, x18, x19, x20, x21, x22, x23, x24, x25, x26, x27, x28, x29, x6, (by simp only [Act.put, List.setIfInBounds_toArray, List.set_cons_zero, List.set_cons_succ]), ⟨hr.gb, hr.f0, hr.f1, (fun _ => rfl), (fun _ => rfl), hr.f4, hr.f5, hr.f6, hr.f7, hr.f8, hr.f9, hr.f10, hr.f11, hr.f12, hr.f13, hr.f14, hr.f15, hr.f16, hr.f17, hr.f18, hr.f19, hr.f20, hr.f21, hr.f22, hr.f23⟩⟩ (if_pos rfl) (fun j hj => if_neg hj)
      · obtain rfl := Option.some.inj ho
        have g3 : ℓ 3 = true := hdep { on := 3, ground := Ground.data } (by simp) rfl
        clear hdep ho
        revert hK
        obtain rfl := hr.f3 g3
        intro hK
        rw [if_pos (by rfl)]
        try simp only [Act.put, List.setIfInBounds_toArray, List.set_cons_zero, List.set_cons_succ]
        go_simp
        exact hK.out _ _ (fun j => if j = 4 then true else ℓ j) ⟨x7, x8, x9, .bool true, .bool true, x12, x13, x14, x15, x16, x17, x18, x19, x20, x21, x22, x23, x24, x25, x26, x27, x28, x29, x6, (by simp only [Act.put, List.setIfInBounds_toArray, List.set_cons_zero, List.set_cons_succ]), ⟨hr.gb, hr.f0, hr.f1, hr.f2, (fun _ => rfl), (fun _ => rfl), hr.f5, hr.f6, hr.f7, hr.f8, hr.f9, hr.f10, hr.f11, hr.f12, hr.f13, hr.f14, hr.f15, hr.f16, hr.f17, hr.f18, hr.f19, hr.f20, hr.f21, hr.f22, hr.f23⟩⟩ (if_pos rfl) (fun j hj => if_neg hj)
      · obtain rfl := Option.some.inj ho
        have g4 : ℓ 4 = true := hdep { on := 4, ground := Ground.guard } (by simp) rfl
        clear hdep ho
        revert hK
        obtain rfl := hr.f4 g4
        intro hK
        try simp only [Act.put, List.setIfInBounds_toArray, List.set_cons_zero, List.set_cons_succ]
        rw [if_pos (by rfl)]
        try simp only [Act.put, List.setIfInBounds_toArray, List.set_cons_zero, List.set_cons_succ]
        go_simp
        exact hK.out _ _ (fun j => if j = 5 then true else ℓ j) ⟨x7, x8, x9, x10, .bool true, .int .i64 f, x13, x14, x15, x16, x17, x18, x19, x20, x21, x22, x23, x24, x25, x26, x27, x28, x29, x6, (by simp only [Act.put, List.setIfInBounds_toArray, List.set_cons_zero, List.set_cons_succ]), ⟨hr.gb, hr.f0, hr.f1, hr.f2, hr.f3, (fun _ => rfl), (fun _ => rfl), hr.f6, hr.f7, hr.f8, hr.f9, hr.f10, hr.f11, hr.f12, hr.f13, hr.f14, hr.f15, hr.f16, hr.f17, hr.f18, hr.f19, hr.f20, hr.f21, hr.f22, hr.f23⟩⟩ (if_pos rfl) (fun j hj => if_neg hj)
      · replace ho : some ({ dst := some 13, op := Op.load 33 (Operand.tmp 3), type := 33, pos := "l23_plan.go:43", after := #[{ on := 4, ground := Ground.guard }], guard := some (4, true) } : Oper) = some o := ho
        obtain rfl := Option.some.inj ho
        have g4 : ℓ 4 = true := hdep { on := 4, ground := Ground.guard } (by simp) rfl
        clear hdep ho
        revert hK
        obtain rfl := hr.f4 g4
        intro hK
        try simp only [Act.put, List.setIfInBounds_toArray, List.set_cons_zero, List.set_cons_succ]
        rw [if_pos (by rfl)]
        try simp only [Act.put, List.setIfInBounds_toArray, List.set_cons_zero, List.set_cons_succ]
        refine wp_load_row (P := Tryz.prog) 33 (.tmp 3) rfl w.heap.size rfl 33 (tbA t a) (0, 0) _ (HXB.out _ hr.gb) Tryz.underlying33 rfl (by kernel_rfl) ?_
        exact hK.out _ _ (fun j => if j = 6 then true else ℓ j) ⟨x7, x8, x9, x10, .bool true, x12, tbV t a, x14, x15, x16, x17, x18, x19, x20, x21, x22, x23, x24, x25, x26, x27, x28, x29, x6, (by simp only [Act.put, List.setIfInBounds_toArray, List.set_cons_zero, List.set_cons_succ]), ⟨hr.gb, hr.f0, hr.f1, hr.f2, hr.f3, (fun _ => rfl), hr.f5, (fun _ => rfl), hr.f7, hr.f8, hr.f9, hr.f10, hr.f11, hr.f12, hr.f13, hr.f14, hr.f15, hr.f16, hr.f17, hr.f18, hr.f19, hr.f20, hr.f21, hr.f22, hr.f23⟩⟩ (if_pos rfl) (fun j hj => if_neg hj)
      · obtain rfl := Option.some.inj ho
        have g6 : ℓ 6 = true := hdep { on := 6, ground := Ground.data } (by simp) rfl
        have g4 : ℓ 4 = true := hdep { on := 4, ground := Ground.guard } (by simp) rfl
        clear hdep ho
        revert hK
        obtain rfl := hr.f4 g4
        obtain rfl := hr.f6 g6
        intro hK
        try simp only [Act.put, List.setIfInBounds_toArray, List.set_cons_zero, List.set_cons_succ]
        rw [if_pos (by rfl)]
        try simp only [Act.put, List.setIfInBounds_toArray, List.set_cons_zero, List.set_cons_succ]
        go_simp
        refine Calls.mono (HLO.out _) ?_
        rintro e w9 ⟨rfl, hb9⟩
        have hr9 := hr.below hb9
        exact hK.out _ _ (fun j => if j = 7 then true else ℓ j) ⟨x7, x8, x9, x10, .bool true, x12, tbV t a, .int .i64 lost, x15, x16, x17, x18, x19, x20, x21, x22, x23, x24, x25, x26, x27, x28, x29, x6, (by simp only [Act.put, List.setIfInBounds_toArray, List.set_cons_zero, List.set_cons_succ]), ⟨hr9.gb, hr9.f0, hr9.f1, hr9.f2, hr9.f3, (fun _ => rfl), hr9.f5, (fun _ => rfl), (fun _ => rfl), hr9.f8, hr9.f9, hr9.f10, hr9.f11, hr9.f12, hr9.f13, hr9.f14, hr9.f15, hr9.f16, hr9.f17, hr9.f18, hr9.f19, hr9.f20, hr9.f21, hr9.f22, hr9.f23⟩⟩ (if_pos rfl) (fun j hj => if_neg hj)
      · obtain rfl := Option.some.inj ho
        have g5 : ℓ 5 = true := hdep { on := 5, ground := Ground.data } (by simp) rfl
        have g7 : ℓ 7 = true := hdep { on := 7, ground := Ground.data } (by simp) rfl
        have g4 : ℓ 4 = true := hdep { on := 4, ground := Ground.guard } (by simp) rfl
        clear hdep ho
        revert hK
        obtain rfl := hr.f4 g4
        obtain rfl := hr.f5 g5
        obtain rfl := hr.f7 g7
        have hb1 := HK2.out
        intro hK
        try simp only [Act.put, List.setIfInBounds_toArray, List.set_cons_zero, List.set_cons_succ]
        rw [if_pos (by rfl)]
        try simp only [Act.put, List.setIfInBounds_toArray, List.set_cons_zero, List.set_cons_succ]
        go_simp
        exact hK.out _ _ (fun j => if j = 8 then true else ℓ j) ⟨x7, x8, x9, x10, .bool true, .int .i64 f, x13, .int .i64 lost, .bool false, x16, x17, x18, x19, x20, x21, x22, x23, x24, x25, x26, x27, x28, x29, x6, (by simp only [Act.put, List.setIfInBounds_toArray, List.set_cons_zero, List.set_cons_succ]), ⟨hr.gb, hr.f0, hr.f1, hr.f2, hr.f3, (fun _ => rfl), (fun _ => rfl), hr.f6, (fun _ => rfl), (fun _ => rfl), hr.f9, hr.f10, hr.f11, hr.f12, hr.f13, hr.f14, hr.f15, hr.f16, hr.f17, hr.f18, hr.f19, hr.f20, hr.f21, hr.f22, hr.f23⟩⟩ (if_pos rfl) (fun j hj => if_neg hj)
      · obtain rfl := Option.some.inj ho
        have g4 : ℓ 4 = true := hdep { on := 4, ground := Ground.data } (by simp) rfl
        have g8 : ℓ 8 = true := hdep { on := 8, ground := Ground.data } (by simp) rfl
        clear hdep ho
        revert hK
        obtain rfl := hr.f4 g4
        obtain rfl := hr.f8 g8
        intro hK
        rw [if_pos (by rfl)]
        try simp only [Act.put, List.setIfInBounds_toArray, List.set_cons_zero, List.set_cons_succ]
        go_simp
        exact hK.out _ _ (fun j => if j = 9 then true else ℓ j) ⟨x7, x8, x9, x10, .bool true, x12, x13, x14, .bool false, .bool false, x17, x18, x19, x20, x21, x22, x23, x24, x25, x26, x27, x28, x29, x6, (by simp only [Act.put, List.setIfInBounds_toArray, List.set_cons_zero, List.set_cons_succ]), ⟨hr.gb, hr.f0, hr.f1, hr.f2, hr.f3, (fun _ => rfl), hr.f5, hr.f6, hr.f7, (fun _ => rfl), (fun _ => rfl), hr.f10, hr.f11, hr.f12, hr.f13, hr.f14, hr.f15, hr.f16, hr.f17, hr.f18, hr.f19, hr.f20, hr.f21, hr.f22, hr.f23⟩⟩ (if_pos rfl) (fun j hj => if_neg hj)
      · obtain rfl := Option.some.inj ho
        have g9 : ℓ 9 = true := hdep { on := 9, ground := Ground.data } (by simp) rfl
        clear hdep ho
        revert hK
        obtain rfl := hr.f9 g9
        intro hK
        rw [if_pos (by rfl)]
        try simp only [Act.put, List.setIfInBounds_toArray, List.set_cons_zero, List.set_cons_succ]
        go_simp
        exact hK.out _ _ (fun j => if j = 10 then true else ℓ j) ⟨x7, x8, x9, x10, x11, x12, x13, x14, x15, .bool false, .bool false, x18, x19, x20, x21, x22, x23, x24, x25, x26, x27, x28, x29, x6, (by simp only [Act.put, List.setIfInBounds_toArray, List.set_cons_zero, List.set_cons_succ]), ⟨hr.gb, hr.f0, hr.f1, hr.f2, hr.f3, hr.f4, hr.f5, hr.f6, hr.f7, hr.f8, (fun _ => rfl), (fun _ => rfl), hr.f11, hr.f12, hr.f13, hr.f14, hr.f15, hr.f16, hr.f17, hr.f18, hr.f19, hr.f20, hr.f21, hr.f22, hr.f23⟩⟩ (if_pos rfl) (fun j hj => if_neg hj)
      · obtain rfl := Option.some.inj ho
        have g10 : ℓ 10 = true := hdep { on := 10, ground := Ground.guard } (by simp) rfl
        clear hdep ho
        revert hK
        obtain rfl := hr.f10 g10
        intro hK
        try simp only [Act.put, List.setIfInBounds_toArray, List.set_cons_zero, List.set_cons_succ]
        rw [if_neg (by first | exact fun h => Bool.false_ne_true h | exact fun h => Bool.false_ne_true h.symm)]
        try simp only [List.getElem_toArray, List.getElem_cons_zero, List.getElem_cons_succ, List.set_cons_zero, List.set_cons_succ]
        exact hK.out _ _ (fun j => if j = 11 then true else ℓ j) ⟨x7, x8, x9, x10, x11, x12, x13, x14, x15, x16, .bool false, undef, x19, x20, x21, x22, x23, x24, x25, x26, x27, x28, x29, x6, (by simp only [Act.put, List.setIfInBounds_toArray, List.set_cons_zero, List.set_cons_succ]), ⟨hr.gb, hr.f0, hr.f1, hr.f2, hr.f3, hr.f4, hr.f5, hr.f6, hr.f7, hr.f8, hr.f9, (fun _ => rfl), (fun _ => rfl), hr.f12, hr.f13, hr.f14, hr.f15, hr.f16, hr.f17, hr.f18, hr.f19, hr.f20, hr.f21, hr.f22, hr.f23⟩⟩ (if_pos rfl) (fun j hj => if_neg hj)
      · obtain rfl := Option.some.inj ho
        have g10 : ℓ 10 = true := hdep { on := 10, ground := Ground.guard } (by simp) rfl
        clear hdep ho
        revert hK
        obtain rfl := hr.f10 g10
        intro hK
        try simp only [Act.put, List.setIfInBounds_toArray, List.set_cons_zero, List.set_cons_succ]
        rw [if_neg (by first | exact fun h => Bool.false_ne_true h | exact fun h => Bool.false_ne_true h.symm)]
        try simp only [List.getElem_toArray, List.getElem_cons_zero, List.getElem_cons_succ, List.set_cons_zero, List.set_cons_succ]
        exact hK.out _ _ (fun j => if j = 12 then true else ℓ j) ⟨x7, x8, x9, x10, x11, x12, x13, x14, x15, x16, .bool false, x18, undef, x20, x21, x22, x23, x24, x25, x26, x27, x28, x29, x6, (by simp only [Act.put, List.setIfInBounds_toArray, List.set_cons_zero, List.set_cons_succ]), ⟨hr.gb, hr.f0, hr.f1, hr.f2, hr.f3, hr.f4, hr.f5, hr.f6, hr.f7, hr.f8, hr.f9, (fun _ => rfl), hr.f11, (fun _ => rfl), hr.f13, hr.f14, hr.f15, hr.f16, hr.f17, hr.f18, hr.f19, hr.f20, hr.f21, hr.f22, hr.f23⟩⟩ (if_pos rfl) (fun j hj => if_neg hj)
      · obtain rfl := Option.some.inj ho
        have g10 : ℓ 10 = true := hdep { on := 10, ground := Ground.guard } (by simp) rfl
        clear hdep ho
        revert hK
        obtain rfl := hr.f10 g10
        intro hK
        try simp only [Act.put, List.setIfInBounds_toArray, List.set_cons_zero, List.set_cons_succ]
        rw [if_neg (by first | exact fun h => Bool.false_ne_true h | exact fun h => Bool.false_ne_true h.symm)]
        try simp only [List.getElem_toArray, List.getElem_cons_zero, List.getElem_cons_succ, List.set_cons_zero, List.set_cons_succ]
        exact hK.out _ _ (fun j => if j = 13 then true else ℓ j) ⟨x7, x8, x9, x10, x11, x12, x13, x14, x15, x16, .bool false, x18, x19, undef, x21, x22, x23, x24, x25, x26, x27, x28, x29, x6, (by simp only [Act.put, List.setIfInBounds_toArray, List.set_cons_zero, List.set_cons_succ]), ⟨hr.gb, hr.f0, hr.f1, hr.f2, hr.f3, hr.f4, hr.f5, hr.f6, hr.f7, hr.f8, hr.f9, (fun _ => rfl), hr.f11, hr.f12, (fun _ => rfl), hr.f14, hr.f15, hr.f16, hr.f17, hr.f18, hr.f19, hr.f20, hr.f21, hr.f22, hr.f23⟩⟩ (if_pos rfl) (fun j hj => if_neg hj)
      · obtain rfl := Option.some.inj ho
        have g10 : ℓ 10 = true := hdep { on := 10, ground := Ground.guard } (by simp) rfl
        clear hdep ho
        revert hK
        obtain rfl := hr.f10 g10
        intro hK
        try simp only [Act.put, List.setIfInBounds_toArray, List.set_cons_zero, List.set_cons_succ]
        rw [if_neg (by first | exact fun h => Bool.false_ne_true h | exact fun h => Bool.false_ne_true h.symm)]
        try simp only [List.getElem_toArray, List.getElem_cons_zero, List.getElem_cons_succ, List.set_cons_zero, List.set_cons_succ]
        exact hK.out _ _ (fun j => if j = 14 then true else ℓ j) ⟨x7, x8, x9, x10, x11, x12, x13, x14, x15, x16, .bool false, x18, x19, x20, undef, x22, x23, x24, x25, x26, x27, x28, x29, x6, (by simp only [Act.put, List.setIfInBounds_toArray, List.set_cons_zero, List.set_cons_succ]), ⟨hr.gb, hr.f0, hr.f1, hr.f2, hr.f3, hr.f4, hr.f5, hr.f6, hr.f7, hr.f8, hr.f9, (fun _ => rfl), hr.f11, hr.f12, hr.f13, (fun _ => rfl), hr.f15, hr.f16, hr.f17, hr.f18, hr.f19, hr.f20, hr.f21, hr.f22, hr.f23⟩⟩ (if_pos rfl) (fun j hj => if_neg hj)
      · obtain rfl := Option.some.inj ho
        have g10 : ℓ 10 = true := hdep { on := 10, ground := Ground.guard } (by simp) rfl
        clear hdep ho
        revert hK
        obtain rfl := hr.f10 g10
        intro hK
        try simp only [Act.put, List.setIfInBounds_toArray, List.set_cons_zero, List.set_cons_succ]
        rw [if_neg (by first | exact fun h => Bool.false_ne_true h | exact fun h => Bool.false_ne_true h.symm)]
        try simp only [List.getElem_toArray, List.getElem_cons_zero, List.getElem_cons_succ, List.set_cons_zero, List.set_cons_succ]
        exact hK.out _ _ (fun j => if j = 15 then true else ℓ j) ⟨x7, x8, x9, x10, x11, x12, x13, x14, x15, x16, .bool false, x18, x19, x20, x21, undef, x23, x24, x25, x26, x27, x28, x29, x6, (by simp only [Act.put, List.setIfInBounds_toArray, List.set_cons_zero, List.set_cons_succ]), ⟨hr.gb, hr.f0, hr.f1, hr.f2, hr.f3, hr.f4, hr.f5, hr.f6, hr.f7, hr.f8, hr.f9, (fun _ => rfl), hr.f11, hr.f12, hr.f13, hr.f14, (fun _ => rfl), hr.f16, hr.f17, hr.f18, hr.f19, hr.f20, hr.f21, hr.f22, hr.f23⟩⟩ (if_pos rfl) (fun j hj => if_neg hj)
      · obtain rfl := Option.some.inj ho
        have g10 : ℓ 10 = true := hdep { on := 10, ground := Ground.guard } (by simp) rfl
        clear hdep ho
        revert hK
        obtain rfl := hr.f10 g10
        intro hK
        try simp only [Act.put, List.setIfInBounds_toArray, List.set_cons_zero, List.set_cons_succ]
        rw [if_neg (by first | exact fun h => Bool.false_ne_true h | exact fun h => Bool.false_ne_true h.symm)]
        try simp only [List.getElem_toArray, List.getElem_cons_zero, List.getElem_cons_succ, List.set_cons_zero, List.set_cons_succ]
        exact hK.out _ _ (fun j => if j = 16 then true else ℓ j) ⟨x7, x8, x9, x10, x11, x12, x13, x14, x15, x16, .bool false, x18, x19, x20, x21, x22, undef, x24, x25, x26, x27, x28, x29, x6, (by simp only [Act.put, List.setIfInBounds_toArray, List.set_cons_zero, List.set_cons_succ]), ⟨hr.gb, hr.f0, hr.f1, hr.f2, hr.f3, hr.f4, hr.f5, hr.f6, hr.f7, hr.f8, hr.f9, (fun _ => rfl), hr.f11, hr.f12, hr.f13, hr.f14, hr.f15, (fun _ => rfl), hr.f17, hr.f18, hr.f19, hr.f20, hr.f21, hr.f22, hr.f23⟩⟩ (if_pos rfl) (fun j hj => if_neg hj)
      · obtain rfl := Option.some.inj ho
        have g10 : ℓ 10 = true := hdep { on := 10, ground := Ground.guard } (by simp) rfl
        clear hdep ho
        revert hK
        obtain rfl := hr.f10 g10
        intro hK
        try simp only [Act.put, List.setIfInBounds_toArray, List.set_cons_zero, List.set_cons_succ]
        rw [if_neg (by first | exact fun h => Bool.false_ne_true h | exact fun h => Bool.false_ne_true h.symm)]
        try simp only [List.getElem_toArray, List.getElem_cons_zero, List.getElem_cons_succ, List.set_cons_zero, List.set_cons_succ]
        exact hK.out _ _ (fun j => if j = 17 then true else ℓ j) ⟨x7, x8, x9, x10, x11, x12, x13, x14, x15, x16, .bool false, x18, x19, x20, x21, x22, x23, undef, x25, x26, x27, x28, x29, x6, (by simp only [Act.put, List.setIfInBounds_toArray, List.set_cons_zero, List.set_cons_succ]), ⟨hr.gb, hr.f0, hr.f1, hr.f2, hr.f3, hr.f4, hr.f5, hr.f6, hr.f7, hr.f8, hr.f9, (fun _ => rfl), hr.f11, hr.f12, hr.f13, hr.f14, hr.f15, hr.f16, (fun _ => rfl), hr.f18, hr.f19, hr.f20, hr.f21, hr.f22, hr.f23⟩⟩ (if_pos rfl) (fun j hj => if_neg hj)
      · obtain rfl := Option.some.inj ho
        have g10 : ℓ 10 = true := hdep { on := 10, ground := Ground.guard } (by simp) rfl
        clear hdep ho
        revert hK
        obtain rfl := hr.f10 g10
        intro hK
        try simp only [Act.put, List.setIfInBounds_toArray, List.set_cons_zero, List.set_cons_succ]
        rw [if_neg (by first | exact fun h => Bool.false_ne_true h | exact fun h => Bool.false_ne_true h.symm)]
        try simp only [List.getElem_toArray, List.getElem_cons_zero, List.getElem_cons_succ, List.set_cons_zero, List.set_cons_succ]
        exact hK.out _ _ (fun j => if j = 18 then true else ℓ j) ⟨x7, x8, x9, x10, x11, x12, x13, x14, x15, x16, .bool false, x18, x19, x20, x21, x22, x23, x24, undef, x26, x27, x28, x29, x6, (by simp only [Act.put, List.setIfInBounds_toArray, List.set_cons_zero, List.set_cons_succ]), ⟨hr.gb, hr.f0, hr.f1, hr.f2, hr.f3, hr.f4, hr.f5, hr.f6, hr.f7, hr.f8, hr.f9, (fun _ => rfl), hr.f11, hr.f12, hr.f13, hr.f14, hr.f15, hr.f16, hr.f17, (fun _ => rfl), hr.f19, hr.f20, hr.f21, hr.f22, hr.f23⟩⟩ (if_pos rfl) (fun j hj => if_neg hj)
      · obtain rfl := Option.some.inj ho
        have g10 : ℓ 10 = true := hdep { on := 10, ground := Ground.guard } (by simp) rfl
        clear hdep ho
        revert hK
        obtain rfl := hr.f10 g10
        intro hK
        try simp only [Act.put, List.setIfInBounds_toArray, List.set_cons_zero, List.set_cons_succ]
        rw [if_neg (by first | exact fun h => Bool.false_ne_true h | exact fun h => Bool.false_ne_true h.symm)]
        try simp only [List.getElem_toArray, List.getElem_cons_zero, List.getElem_cons_succ, List.set_cons_zero, List.set_cons_succ]
        exact hK.out _ _ (fun j => if j = 19 then true else ℓ j) ⟨x7, x8, x9, x10, x11, x12, x13, x14, x15, x16, .bool false, x18, x19, x20, x21, x22, x23, x24, x25, undef, x27, x28, x29, x6, (by simp only [Act.put, List.setIfInBounds_toArray, List.set_cons_zero, List.set_cons_succ]), ⟨hr.gb, hr.f0, hr.f1, hr.f2, hr.f3, hr.f4, hr.f5, hr.f6, hr.f7, hr.f8, hr.f9, (fun _ => rfl), hr.f11, hr.f12, hr.f13, hr.f14, hr.f15, hr.f16, hr.f17, hr.f18, (fun _ => rfl), hr.f20, hr.f21, hr.f22, hr.f23⟩⟩ (if_pos rfl) (fun j hj => if_neg hj)
      · obtain rfl := Option.some.inj ho
        have g10 : ℓ 10 = true := hdep { on := 10, ground := Ground.guard } (by simp) rfl
        clear hdep ho
        revert hK
        obtain rfl := hr.f10 g10
        intro hK
        try simp only [Act.put, List.setIfInBounds_toArray, List.set_cons_zero, List.set_cons_succ]
        rw [if_neg (by first | exact fun h => Bool.false_ne_true h | exact fun h => Bool.false_ne_true h.symm)]
        try simp only [List.getElem_toArray, List.getElem_cons_zero, List.getElem_cons_succ, List.set_cons_zero, List.set_cons_succ]
        exact hK.out _ _ (fun j => if j = 20 then true else ℓ j) ⟨x7, x8, x9, x10, x11, x12, x13, x14, x15, x16, .bool false, x18, x19, x20, x21, x22, x23, x24, x25, x26, undef, x28, x29, x6, (by simp only [Act.put, List.setIfInBounds_toArray, List.set_cons_zero, List.set_cons_succ]), ⟨hr.gb, hr.f0, hr.f1, hr.f2, hr.f3, hr.f4, hr.f5, hr.f6, hr.f7, hr.f8, hr.f9, (fun _ => rfl), hr.f11, hr.f12, hr.f13, hr.f14, hr.f15, hr.f16, hr.f17, hr.f18, hr.f19, (fun _ => rfl), hr.f21, hr.f22, hr.f23⟩⟩ (if_pos rfl) (fun j hj => if_neg hj)
      · obtain rfl := Option.some.inj ho
        have g10 : ℓ 10 = true := hdep { on := 10, ground := Ground.guard } (by simp) rfl
        clear hdep ho
        revert hK
        obtain rfl := hr.f10 g10
        intro hK
        try simp only [Act.put, List.setIfInBounds_toArray, List.set_cons_zero, List.set_cons_succ]
        rw [if_neg (by first | exact fun h => Bool.false_ne_true h | exact fun h => Bool.false_ne_true h.symm)]
        try simp only [List.getElem_toArray, List.getElem_cons_zero, List.getElem_cons_succ, List.set_cons_zero, List.set_cons_succ]
        exact hK.out _ _ (fun j => if j = 21 then true else ℓ j) ⟨x7, x8, x9, x10, x11, x12, x13, x14, x15, x16, .bool false, x18, x19, x20, x21, x22, x23, x24, x25, x26, x27, undef, x29, x6, (by simp only [Act.put, List.setIfInBounds_toArray, List.set_cons_zero, List.set_cons_succ]), ⟨hr.gb, hr.f0, hr.f1, hr.f2, hr.f3, hr.f4, hr.f5, hr.f6, hr.f7, hr.f8, hr.f9, (fun _ => rfl), hr.f11, hr.f12, hr.f13, hr.f14, hr.f15, hr.f16, hr.f17, hr.f18, hr.f19, hr.f20, (fun _ => rfl), hr.f22, hr.f23⟩⟩ (if_pos rfl) (fun j hj => if_neg hj)
      · obtain rfl := Option.some.inj ho
        have g10 : ℓ 10 = true := hdep { on := 10, ground := Ground.data } (by simp) rfl
        have g21 : ℓ 21 = true := hdep { on := 21, ground := Ground.data } (by simp) rfl
        clear hdep ho
        revert hK
        obtain rfl := hr.f10 g10
        obtain rfl := hr.f21 g21
        intro hK
        rw [if_pos (by rfl)]
        try simp only [Act.put, List.setIfInBounds_toArray, List.set_cons_zero, List.set_cons_succ]
        go_simp
        exact hK.out _ _ (fun j => if j = 22 then true else ℓ j) ⟨x7, x8, x9, x10, x11, x12, x13, x14, x15, x16, .bool false, x18, x19, x20, x21, x22, x23, x24, x25, x26, x27, undef, .bool false, x6, (by simp only [Act.put, List.setIfInBounds_toArray, List.set_cons_zero, List.set_cons_succ]), ⟨hr.gb, hr.f0, hr.f1, hr.f2, hr.f3, hr.f4, hr.f5, hr.f6, hr.f7, hr.f8, hr.f9, (fun _ => rfl), hr.f11, hr.f12, hr.f13, hr.f14, hr.f15, hr.f16, hr.f17, hr.f18, hr.f19, hr.f20, (fun _ => rfl), (fun _ => rfl), hr.f23⟩⟩ (if_pos rfl) (fun j hj => if_neg hj)
      · obtain rfl := Option.some.inj ho
        have g22 : ℓ 22 = true := hdep { on := 22, ground := Ground.data } (by simp) rfl
        clear hdep ho
        revert hK
        obtain rfl := hr.f22 g22
        intro hK
        rw [if_pos (by rfl)]
        try simp only [Act.put, List.setIfInBounds_toArray, List.set_cons_zero, List.set_cons_succ]
        go_simp
        exact hK.out _ _ (fun j => if j = 23 then true else ℓ j) ⟨x7, x8, x9, x10, x11, x12, x13, x14, x15, x16, x17, x18, x19, x20, x21, x22, x23, x24, x25, x26, x27, x28, .bool false, .bool false, (by simp only [Act.put, List.setIfInBounds_toArray, List.set_cons_zero, List.set_cons_succ]), ⟨hr.gb, hr.f0, hr.f1, hr.f2, hr.f3, hr.f4, hr.f5, hr.f6, hr.f7, hr.f8, hr.f9, hr.f10, hr.f11, hr.f12, hr.f13, hr.f14, hr.f15, hr.f16, hr.f17, hr.f18, hr.f19, hr.f20, hr.f21, (fun _ => rfl), (fun _ => rfl)⟩⟩ (if_pos rfl) (fun j hj => if_neg hj)
    · rintro a' w' ℓ ℓ' hℓ hI
      rw [← show ℓ = ℓ' from funext hℓ]
      exact hI
  have HK2 : Hid (lost < f) := hlf
  have HWR : Hid (IntKind.i64.wrap (z3 - f) = z3 - f) := by have := HZB.out; show _ = _; rw [IntKind.wrap_i64]; omega
  have HQ : Hid (decide (lost < z3 - f) = q) := bool_is hq2 ⟨fun h => ⟨h16, hlf, of_decide_eq_true h⟩, fun h => decide_eq_true h.2.2⟩
  clear hq2
  refine wp_region_inv (by kernel_rfl) (by kernel_rfl) (fun A ℓ a' w' => ∃ (x7 x8 x9 x10 x11 x12 x13 x14 x15 x16 x17 x18 x19 x20 x21 x22 x23 x24 x25 x26 x27 x28 x29 x6 : Value), a' = ((((((((((((((((((((((((A.put (some 7) x7).put (some 8) x8).put (some 9) x9).put (some 10) x10).put (some 11) x11).put (some 12) x12).put (some 13) x13).put (some 14) x14).put (some 15) x15).put (some 16) x16).put (some 17) x17).put (some 18) x18).put (some 19) x19).put (some 20) x20).put (some 21) x21).put (some 22) x22).put (some 23) x23).put (some 24) x24).put (some 25) x25).put (some 26) x26).put (some 27) x27).put (some 28) x28).put (some 29) x29).put (some 6) x6) ∧ RcY W1 (tbV t a) (.pointer (some ⟨w.heap.size, 18, none⟩)) (.slice (some ⟨b1, o1, none⟩) sn sc) (.int .i64 (sn : Int)) (.int .i64 f) (.int .i64 lost) (.int .i64 (k : Int)) (.pointer (some ⟨b1, o1 + k * 3, none⟩)) (.pointer (some ⟨b1, o1 + k * 3 + 2, none⟩)) (.int .i64 z3) (.int .i64 (z3 - f)) (.bool q) w' (ℓ 0) (ℓ 1) (ℓ 2) (ℓ 3) (ℓ 4) (ℓ 5) (ℓ 6) (ℓ 7) (ℓ 8) (ℓ 9) (ℓ 10) (ℓ 11) (ℓ 12) (ℓ 13) (ℓ 14) (ℓ 15) (ℓ 16) (ℓ 17) (ℓ 18) (ℓ 19) (ℓ 20) (ℓ 21) (ℓ 22) (ℓ 23) x7 x8 x9 x10 x11 x12 x13 x14 x15 x16 x17 x18 x19 x20 x21 x22 x23 x24 x25 x26 x27 x28 x29 x6) ?_ ?_ ?_ ?_
  · exact ⟨undef, undef, undef, undef, undef, undef, undef, undef, undef, undef, undef, undef, undef, undef, undef, undef, undef, undef, undef, undef, undef, undef, undef, .bool false, (by simp only [Act.put, List.setIfInBounds_toArray, List.set_cons_zero, List.set_cons_succ]), ⟨HW0.out.drew, (fun g => by cases g), (fun g => by cases g), (fun g => by cases g), (fun g => by cases g), (fun g => by cases g), (fun g => by cases g), (fun g => by cases g), (fun g => by cases g), (fun g => by cases g), (fun g => by cases g), (fun g => by cases g), (fun g => by cases g), (fun g => by cases g), (fun g => by cases g), (fun g => by cases g), (fun g => by cases g), (fun g => by cases g), (fun g => by cases g), (fun g => by cases g), (fun g => by cases g), (fun g => by cases g), (fun g => by cases g), (fun g => by cases g), (fun g => by cases g)⟩⟩
  · intro ℓ a' w' hI hall
    obtain ⟨x7, x8, x9, x10, x11, x12, x13, x14, x15, x16, x17, x18, x19, x20, x21, x22, x23, x24, x25, x26, x27, x28, x29, x6, rfl, hr⟩ := hI
    have hall' : ∀ i, i < 24 → ℓ i = true := hall
    obtain rfl := hr.f0 (hall' 0 (by decide))
    obtain rfl := hr.f1 (hall' 1 (by decide))
    obtain rfl := hr.f2 (hall' 2 (by decide))
    obtain rfl := hr.f3 (hall' 3 (by decide))
    obtain rfl := hr.f4 (hall' 4 (by decide))
    obtain rfl := hr.f5 (hall' 5 (by decide))
    obtain rfl := hr.f6 (hall' 6 (by decide))
    obtain rfl := hr.f7 (hall' 7 (by decide))
    obtain rfl := hr.f8 (hall' 8 (by decide))
    obtain rfl := hr.f9 (hall' 9 (by decide))
    obtain rfl := hr.f10 (hall' 10 (by decide))
    obtain rfl := hr.f11 (hall' 11 (by decide))
    obtain rfl := hr.f12 (hall' 12 (by decide))
    obtain rfl := hr.f13 (hall' 13 (by decide))
    obtain rfl := hr.f14 (hall' 14 (by decide))
    obtain rfl := hr.f15 (hall' 15 (by decide))
    obtain rfl := hr.f16 (hall' 16 (by decide))
    obtain rfl := hr.f17 (hall' 17 (by decide))
    obtain rfl := hr.f18 (hall' 18 (by decide))
    obtain rfl := hr.f19 (hall' 19 (by decide))
    obtain rfl := hr.f20 (hall' 20 (by decide))
    obtain rfl := hr.f21 (hall' 21 (by decide))
    obtain rfl := hr.f22 (hall' 22 (by decide))
    obtain rfl := hr.f23 (hall' 23 (by decide))
    have gb : Hid (Below W1.heap.size W1 w') := hr.gb
    clear hall hall' hr
    simp only [Act.put, List.setIfInBounds_toArray, List.set_cons_zero, List.set_cons_succ]
    go_wp2
    go_ret
    exact ⟨rfl, HBW.out.trans (gb.out.mono HBW.out.size)⟩
  · intro ℓ a' w' i o hI ho hi hL hdep K hK
    obtain ⟨x7, x8, x9, x10, x11, x12, x13, x14, x15, x16, x17, x18, x19, x20, x21, x22, x23, x24, x25, x26, x27, x28, x29, x6, rfl, hr⟩ := hI
    have hi7 : i < 24 := hi
    have hcs : i = 0 ∨ i = 1 ∨ i = 2 ∨ i = 3 ∨ i = 4 ∨ i = 5 ∨ i = 6 ∨ i = 7 ∨ i = 8 ∨ i = 9 ∨ i = 10 ∨ i = 11 ∨ i = 12 ∨ i = 13 ∨ i = 14 ∨ i = 15 ∨ i = 16 ∨ i = 17 ∨ i = 18 ∨ i = 19 ∨ i = 20 ∨ i = 21 ∨ i = 22 ∨ i = 23 := by omega
    clear hi hi7
    rcases hcs with rfl | rfl | rfl | rfl | rfl | rfl | rfl | rfl | rfl | rfl | rfl | rfl | rfl | rfl | rfl | rfl | rfl | rfl | rfl | rfl | rfl | rfl | rfl | rfl
    · obtain rfl := Option.some.inj ho
      clear hdep ho
      revert hK
      intro hK
      rw [if_pos (by rfl)]
      try simp only [Act.put, List.setIfInBounds_toArray, List.set_cons_zero, List.set_cons_succ]
      go_simp
      exact hK.out _ _ (fun j => if j = 0 then true else ℓ j) ⟨.pointer (some ⟨w.heap.size, 18, none⟩), x8, x9, x10, x11, x12, x13, x14, x15, x16, x17, x18, x19, x20, x21, x22, x23, x24, x25, x26, x27, x28, x29, x6, (by simp only [Act.put, List.setIfInBounds_toArray, List.set_cons_zero, List.set_cons_succ]), ⟨hr.gb, (fun _ => rfl), hr.f1, hr.f2, hr.f3, hr.f4, hr.f5, hr.f6, hr.f7, hr.f8, hr.f9, hr.f10, hr.f11, hr.f12, hr.f13, hr.f14, hr.f15, hr.f16, hr.f17, hr.f18, hr.f19, hr.f20, hr.f21, hr.f22, hr.f23⟩⟩ (if_pos rfl) (fun j hj => if_neg hj)
    · obtain rfl := Option.some.inj ho
      have g0 : ℓ 0 = true := hdep { on := 0, ground := Ground.data } (by simp) rfl
      clear hdep ho
      revert hK
      obtain rfl := hr.f0 g0
      have hcx := (HCX.out _ hr.gb).1
      intro hK
      rw [if_pos (by rfl)]
      try simp only [Act.put, List.setIfInBounds_toArray, List.set_cons_zero, List.set_cons_succ]
      go_simp
      exact hK.out _ _ (fun j => if j = 1 then true else ℓ j) ⟨.pointer (some ⟨w.heap.size, 18, none⟩), .slice (some ⟨b1, o1, none⟩) sn sc, x9, x10, x11, x12, x13, x14, x15, x16, x17, x18, x19, x20, x21, x22, x23, x24, x25, x26, x27, x28, x29, x6, (by simp only [Act.put, List.setIfInBounds_toArray, List.set_cons_zero, List.set_cons_succ]), ⟨hr.gb, (fun _ => rfl), (fun _ => rfl), hr.f2, hr.f3, hr.f4, hr.f5, hr.f6, hr.f7, hr.f8, hr.f9, hr.f10, hr.f11, hr.f12, hr.f13, hr.f14, hr.f15, hr.f16, hr.f17, hr.f18, hr.f19, hr.f20, hr.f21, hr.f22, hr.f23⟩⟩ (if_pos rfl) (fun j hj => if_neg hj)
    · obtain rfl := Option.some.inj ho
      have g1 : ℓ 1 = true := hdep { on := 1, ground := Ground.data } (by simp) rfl
      clear hdep ho
      revert hK
      obtain rfl := hr.f1 g1
      intro hK
      rw [if_pos (by rfl)]
      try simp only [Act.put, List.setIfInBounds_toArray, List.set_cons_zero, List.set_cons_succ]
      go_simp
      exact hK.out _ _ (fun j => if j = 2 then true else ℓ j) ⟨x7, .slice (some ⟨b1, o1, none⟩) sn sc, .int .i64 (sn : Int), x10, x11, x12, x13, x14, x15, x16, x17, x18, x19, x20, x21, x22, x23, x24, x25, x26, x27, x28, x29, x6, (by simp only [Act.put, List.setIfInBounds_toArray, List.set_cons_zero, List.set_cons_succ]), ⟨hr.gb, hr.f0, (fun _ => rfl), (fun _ => rfl), hr.f3, hr.f4, hr.f5, hr.f6, hr.f7, hr.f8, hr.f9, hr.f10, hr.f11, hr.f12, hr.f13, hr.f14, hr.f15, hr.f16, hr.f17, hr.f18, hr.f19, hr.f20, hr.f21, hr.f22, hr.f23⟩⟩ (if_pos rfl) (fun j hj => if_neg hj)
    · obtain rfl := Option.some.inj ho
      have g2 : ℓ 2 = true := hdep { on := 2, ground := Ground.data } (by simp) rfl
      clear hdep ho
      revert hK
      obtain rfl := hr.f2 g2
      have hb1 := HK1.out
      intro hK
      rw [if_pos (by rfl)]
      try simp only [Act.put, List.setIfInBounds_toArray, List.set_cons_zero, List.set_cons_succ]
      go_simp
      exact hK.out _ _ (fun j => if j = 3 then true else ℓ j) ⟨x7, x8, .int .i64 (sn : Int), .bool true, x11, x12, x13, x14, x15, x16, x17, x18, x19, x20, x21, x22, x23, x24, x25, x26, x27, x28, x29, x6, (by simp only [Act.put, List.setIfInBounds_toArray, List.set_cons_zero, List.set_cons_succ]), ⟨hr.gb, hr.f0, hr.f1, (fun _ => rfl), (fun _ => rfl), hr.f4, hr.f5, hr.f6, hr.f7, hr.f8, hr.f9, hr.f10, hr.f11, hr.f12, hr.f13, hr.f14, hr.f15, hr.f16, hr.f17, hr.f18, hr.f19, hr.f20, hr.f21, hr.f22, hr.f23⟩⟩ (if_pos rfl) (fun j hj => if_neg hj)
    · obtain rfl := Option.some.inj ho
      have g3 : ℓ 3 = true := hdep { on := 3, ground := Ground.data } (by simp) rfl
      clear hdep ho
      revert hK
      obtain rfl := hr.f3 g3
      intro hK
      rw [if_pos (by rfl)]
      try simp only [Act.put, List.setIfInBounds_toArray, List.set_cons_zero, List.set_cons_succ]
      go_simp
      exact hK.out _ _ (fun j => if j = 4 then true else ℓ j) ⟨x7, x8, x9, .bool true, .bool true, x12, x13, x14, x15, x16, x17, x18, x19, x20, x21, x22, x23, x24, x25, x26, x27, x28, x29, x6, (by simp only [Act.put, List.setIfInBounds_toArray, List.set_cons_zero, List.set_cons_succ]), ⟨hr.gb, hr.f0, hr.f1, hr.f2, (fun _ => rfl), (fun _ => rfl), hr.f5, hr.f6, hr.f7, hr.f8, hr.f9, hr.f10, hr.f11, hr.f12, hr.f13, hr.f14, hr.f15, hr.f16, hr.f17, hr.f18, hr.f19, hr.f20, hr.f21, hr.f22, hr.f23⟩⟩ (if_pos rfl) (fun j hj => if_neg hj)
    · obtain rfl := Option.some.inj ho
      have g4 : ℓ 4 = true := hdep { on := 4, ground := Ground.guard } (by simp) rfl
      clear hdep ho
      revert hK
      obtain rfl := hr.f4 g4
      intro hK
      try simp only [Act.put, List.setIfInBounds_toArray, List.set_cons_zero, List.set_cons_succ]
      rw [if_pos (by rfl)]
      try simp only [Act.put, List.setIfInBounds_toArray, List.set_cons_zero, List.set_cons_succ]
      go_simp
      exact hK.out _ _ (fun j => if j = 5 then true else ℓ j) ⟨x7, x8, x9, x10, .bool true, .int .i64 f, x13, x14, x15, x16, x17, x18, x19, x20, x21, x22, x23, x24, x25, x26, x27, x28, x29, x6, (by simp only [Act.put, List.setIfInBounds_toArray, List.set_cons_zero, List.set_cons_succ]), ⟨hr.gb, hr.f0, hr.f1, hr.f2, hr.f3, (fun _ => rfl), (fun _ => rfl), hr.f6, hr.f7, hr.f8, hr.f9, hr.f10, hr.f11, hr.f12, hr.f13, hr.f14, hr.f15, hr.f16, hr.f17, hr.f18, hr.f19, hr.f20, hr.f21, hr.f22, hr.f23⟩⟩ (if_pos rfl) (fun j hj => if_neg hj)
    · replace ho : some ({ dst := some 13, op := Op.load 33 (Operand.tmp 3), type := 33, pos := "l23_plan.go:43", after := #[{ on := 4, ground := Ground.guard }], guard := some (4, true) } : Oper) = some o := ho
      obtain rfl := Option.some.inj ho
      have g4 : ℓ 4 = true := hdep { on := 4, ground := Ground.guard } (by simp) rfl
      clear hdep ho
      revert hK
      obtain rfl := hr.f4 g4
      intro hK
      try simp only [Act.put, List.setIfInBounds_toArray, List.set_cons_zero, List.set_cons_succ]
      rw [if_pos (by rfl)]
      try simp only [Act.put, List.setIfInBounds_toArray, List.set_cons_zero, List.set_cons_succ]
      refine wp_load_row (P := Tryz.prog) 33 (.tmp 3) rfl w.heap.size rfl 33 (tbA t a) (0, 0) _ (HXB.out _ hr.gb) Tryz.underlying33 rfl (by kernel_rfl) ?_
      exact hK.out _ _ (fun j => if j = 6 then true else ℓ j) ⟨x7, x8, x9, x10, .bool true, x12, tbV t a, x14, x15, x16, x17, x18, x19, x20, x21, x22, x23, x24, x25, x26, x27, x28, x29, x6, (by simp only [Act.put, List.setIfInBounds_toArray, List.set_cons_zero, List.set_cons_succ]), ⟨hr.gb, hr.f0, hr.f1, hr.f2, hr.f3, (fun _ => rfl), hr.f5, (fun _ => rfl), hr.f7, hr.f8, hr.f9, hr.f10, hr.f11, hr.f12, hr.f13, hr.f14, hr.f15, hr.f16, hr.f17, hr.f18, hr.f19, hr.f20, hr.f21, hr.f22, hr.f23⟩⟩ (if_pos rfl) (fun j hj => if_neg hj)
    · obtain rfl := Option.some.inj ho
      have g6 : ℓ 6 = true := hdep { on := 6, ground := Ground.data } (by simp) rfl
      have g4 : ℓ 4 = true := hdep { on := 4, ground := Ground.guard } (by simp) rfl
      clear hdep ho
      revert hK
      obtain rfl := hr.f4 g4
      obtain rfl := hr.f6 g6
      intro hK
      try simp only [Act.put, List.setIfInBounds_toArray, List.set_cons_zero, List.set_cons_succ]
      rw [if_pos (by rfl)]
      try simp only [Act.put, List.setIfInBounds_toArray, List.set_cons_zero, List.set_cons_succ]
      go_simp
      refine Calls.mono (HLO.out _) ?_
      rintro e w9 ⟨rfl, hb9⟩
      have hr9 := hr.below hb9
      exact hK.out _ _ (fun j => if j = 7 then true else ℓ j) ⟨x7, x8, x9, x10, .bool true, x12, tbV t a, .int .i64 lost, x15, x16, x17, x18, x19, x20, x21, x22, x23, x24, x25, x26, x27, x28, x29, x6, (by simp only [Act.put, List.setIfInBounds_toArray, List.set_cons_zero, List.set_cons_succ]), ⟨hr9.gb, hr9.f0, hr9.f1, hr9.f2, hr9.f3, (fun _ => rfl), hr9.f5, (fun _ => rfl), (fun _ => rfl), hr9.f8, hr9.f9, hr9.f10, hr9.f11, hr9.f12, hr9.f13, hr9.f14, hr9.f15, hr9.f16, hr9.f17, hr9.f18, hr9.f19, hr9.f20, hr9.f21, hr9.f22, hr9.f23⟩⟩ (if_pos rfl) (fun j hj => if_neg hj)
    · obtain rfl := Option.some.inj ho
      have g5 : ℓ 5 = true := hdep { on := 5, ground := Ground.data } (by simp) rfl
      have g7 : ℓ 7 = true := hdep { on := 7, ground := Ground.data } (by simp) rfl
      have g4 : ℓ 4 = true := hdep { on := 4, ground := Ground.guard } (by simp) rfl
      clear hdep ho
      revert hK
      obtain rfl := hr.f4 g4
      obtain rfl := hr.f5 g5
      obtain rfl := hr.f7 g7
      have hb1 := HK2.out
      intro hK
      try simp only [Act.put, List.setIfInBounds_toArray, List.set_cons_zero, List.set_cons_succ]
      rw [if_pos (by rfl)]
      try simp only [Act.put, List.setIfInBounds_toArray, List.set_cons_zero, List.set_cons_succ]
      go_simp
      exact hK.out _ _ (fun j => if j = 8 then true else ℓ j) ⟨x7, x8, x9, x10, .bool true, .int .i64 f, x13, .int .i64 lost, .bool true, x16, x17, x18, x19, x20, x21, x22, x23, x24, x25, x26, x27, x28, x29, x6, (by simp only [Act.put, List.setIfInBounds_toArray, List.set_cons_zero, List.set_cons_succ]), ⟨hr.gb, hr.f0, hr.f1, hr.f2, hr.f3, (fun _ => rfl), (fun _ => rfl), hr.f6, (fun _ => rfl), (fun _ => rfl), hr.f9, hr.f10, hr.f11, hr.f12, hr.f13, hr.f14, hr.f15, hr.f16, hr.f17, hr.f18, hr.f19, hr.f20, hr.f21, hr.f22, hr.f23⟩⟩ (if_pos rfl) (fun j hj => if_neg hj)
    · obtain rfl := Option.some.inj ho
      have g4 : ℓ 4 = true := hdep { on := 4, ground := Ground.data } (by simp) rfl
      have g8 : ℓ 8 = true := hdep { on := 8, ground := Ground.data } (by simp) rfl
      clear hdep ho
      revert hK
      obtain rfl := hr.f4 g4
      obtain rfl := hr.f8 g8
      intro hK
      rw [if_pos (by rfl)]
      try simp only [Act.put, List.setIfInBounds_toArray, List.set_cons_zero, List.set_cons_succ]
      go_simp
      exact hK.out _ _ (fun j => if j = 9 then true else ℓ j) ⟨x7, x8, x9, x10, .bool true, x12, x13, x14, .bool true, .bool true, x17, x18, x19, x20, x21, x22, x23, x24, x25, x26, x27, x28, x29, x6, (by simp only [Act.put, List.setIfInBounds_toArray, List.set_cons_zero, List.set_cons_succ]), ⟨hr.gb, hr.f0, hr.f1, hr.f2, hr.f3, (fun _ => rfl), hr.f5, hr.f6, hr.f7, (fun _ => rfl), (fun _ => rfl), hr.f10, hr.f11, hr.f12, hr.f13, hr.f14, hr.f15, hr.f16, hr.f17, hr.f18, hr.f19, hr.f20, hr.f21, hr.f22, hr.f23⟩⟩ (if_pos rfl) (fun j hj => if_neg hj)
    · obtain rfl := Option.some.inj ho
      have g9 : ℓ 9 = true := hdep { on := 9, ground := Ground.data } (by simp) rfl
      clear hdep ho
      revert hK
      obtain rfl := hr.f9 g9
      intro hK
      rw [if_pos (by rfl)]
      try simp only [Act.put, List.setIfInBounds_toArray, List.set_cons_zero, List.set_cons_succ]
      go_simp
      exact hK.out _ _ (fun j => if j = 10 then true else ℓ j) ⟨x7, x8, x9, x10, x11, x12, x13, x14, x15, .bool true, .bool true, x18, x19, x20, x21, x22, x23, x24, x25, x26, x27, x28, x29, x6, (by simp only [Act.put, List.setIfInBounds_toArray, List.set_cons_zero, List.set_cons_succ]), ⟨hr.gb, hr.f0, hr.f1, hr.f2, hr.f3, hr.f4, hr.f5, hr.f6, hr.f7, hr.f8, (fun _ => rfl), (fun _ => rfl), hr.f11, hr.f12, hr.f13, hr.f14, hr.f15, hr.f16, hr.f17, hr.f18, hr.f19, hr.f20, hr.f21, hr.f22, hr.f23⟩⟩ (if_pos rfl) (fun j hj => if_neg hj)
    · obtain rfl := Option.some.inj ho
      have g10 : ℓ 10 = true := hdep { on := 10, ground := Ground.guard } (by simp) rfl
      clear hdep ho
      revert hK
      obtain rfl := hr.f10 g10
      intro hK
      try simp only [Act.put, List.setIfInBounds_toArray, List.set_cons_zero, List.set_cons_succ]
      rw [if_pos (by rfl)]
      try simp only [Act.put, List.setIfInBounds_toArray, List.set_cons_zero, List.set_cons_succ]
      go_simp
      exact hK.out _ _ (fun j => if j = 11 then true else ℓ j) ⟨x7, x8, x9, x10, x11, x12, x13, x14, x15, x16, .bool true, .pointer (some ⟨w.heap.size, 18, none⟩), x19, x20, x21, x22, x23, x24, x25, x26, x27, x28, x29, x6, (by simp only [Act.put, List.setIfInBounds_toArray, List.set_cons_zero, List.set_cons_succ]), ⟨hr.gb, hr.f0, hr.f1, hr.f2, hr.f3, hr.f4, hr.f5, hr.f6, hr.f7, hr.f8, hr.f9, (fun _ => rfl), (fun _ => rfl), hr.f12, hr.f13, hr.f14, hr.f15, hr.f16, hr.f17, hr.f18, hr.f19, hr.f20, hr.f21, hr.f22, hr.f23⟩⟩ (if_pos rfl) (fun j hj => if_neg hj)
    · obtain rfl := Option.some.inj ho
      have g11 : ℓ 11 = true := hdep { on := 11, ground := Ground.data } (by simp) rfl
      have g10 : ℓ 10 = true := hdep { on := 10, ground := Ground.guard } (by simp) rfl
      clear hdep ho
      revert hK
      obtain rfl := hr.f10 g10
      obtain rfl := hr.f11 g11
      have hcx := (HCX.out _ hr.gb).1
      intro hK
      try simp only [Act.put, List.setIfInBounds_toArray, List.set_cons_zero, List.set_cons_succ]
      rw [if_pos (by rfl)]
      try simp only [Act.put, List.setIfInBounds_toArray, List.set_cons_zero, List.set_cons_succ]
      go_simp
      exact hK.out _ _ (fun j => if j = 12 then true else ℓ j) ⟨x7, x8, x9, x10, x11, x12, x13, x14, x15, x16, .bool true, .pointer (some ⟨w.heap.size, 18, none⟩), .slice (some ⟨b1, o1, none⟩) sn sc, x20, x21, x22, x23, x24, x25, x26, x27, x28, x29, x6, (by simp only [Act.put, List.setIfInBounds_toArray, List.set_cons_zero, List.set_cons_succ]), ⟨hr.gb, hr.f0, hr.f1, hr.f2, hr.f3, hr.f4, hr.f5, hr.f6, hr.f7, hr.f8, hr.f9, (fun _ => rfl), (fun _ => rfl), (fun _ => rfl), hr.f13, hr.f14, hr.f15, hr.f16, hr.f17, hr.f18, hr.f19, hr.f20, hr.f21, hr.f22, hr.f23⟩⟩ (if_pos rfl) (fun j hj => if_neg hj)
    · obtain rfl := Option.some.inj ho
      have g10 : ℓ 10 = true := hdep { on := 10, ground := Ground.guard } (by simp) rfl
      clear hdep ho
      revert hK
      obtain rfl := hr.f10 g10
      intro hK
      try simp only [Act.put, List.setIfInBounds_toArray, List.set_cons_zero, List.set_cons_succ]
      rw [if_pos (by rfl)]
      try simp only [Act.put, List.setIfInBounds_toArray, List.set_cons_zero, List.set_cons_succ]
      go_simp
      exact hK.out _ _ (fun j => if j = 13 then true else ℓ j) ⟨x7, x8, x9, x10, x11, x12, x13, x14, x15, x16, .bool true, x18, x19, .int .i64 (k : Int), x21, x22, x23, x24, x25, x26, x27, x28, x29, x6, (by simp only [Act.put, List.setIfInBounds_toArray, List.set_cons_zero, List.set_cons_succ]), ⟨hr.gb, hr.f0, hr.f1, hr.f2, hr.f3, hr.f4, hr.f5, hr.f6, hr.f7, hr.f8, hr.f9, (fun _ => rfl), hr.f11, hr.f12, (fun _ => rfl), hr.f14, hr.f15, hr.f16, hr.f17, hr.f18, hr.f19, hr.f20, hr.f21, hr.f22, hr.f23⟩⟩ (if_pos rfl) (fun j hj => if_neg hj)
    · obtain rfl := Option.some.inj ho
      have g12 : ℓ 12 = true := hdep { on := 12, ground := Ground.data } (by simp) rfl
      have g13 : ℓ 13 = true := hdep { on := 13, ground := Ground.data } (by simp) rfl
      have g10 : ℓ 10 = true := hdep { on := 10, ground := Ground.guard } (by simp) rfl
      clear hdep ho
      revert hK
      obtain rfl := hr.f10 g10
      obtain rfl := hr.f12 g12
      obtain rfl := hr.f13 g13
      intro hK
      try simp only [Act.put, List.setIfInBounds_toArray, List.set_cons_zero, List.set_cons_succ]
      rw [if_pos (by rfl)]
      try simp only [Act.put, List.setIfInBounds_toArray, List.set_cons_zero, List.set_cons_succ]
      go_simp
      exact hK.out _ _ (fun j => if j = 14 then true else ℓ j) ⟨x7, x8, x9, x10, x11, x12, x13, x14, x15, x16, .bool true, x18, .slice (some ⟨b1, o1, none⟩) sn sc, .int .i64 (k : Int), .pointer (some ⟨b1, o1 + k * 3, none⟩), x22, x23, x24, x25, x26, x27, x28, x29, x6, (by simp only [Act.put, List.setIfInBounds_toArray, List.set_cons_zero, List.set_cons_succ]), ⟨hr.gb, hr.f0, hr.f1, hr.f2, hr.f3, hr.f4, hr.f5, hr.f6, hr.f7, hr.f8, hr.f9, (fun _ => rfl), hr.f11, (fun _ => rfl), (fun _ => rfl), (fun _ => rfl), hr.f15, hr.f16, hr.f17, hr.f18, hr.f19, hr.f20, hr.f21, hr.f22, hr.f23⟩⟩ (if_pos rfl) (fun j hj => if_neg hj)
    · obtain rfl := Option.some.inj ho
      have g14 : ℓ 14 = true := hdep { on := 14, ground := Ground.data } (by simp) rfl
      have g10 : ℓ 10 = true := hdep { on := 10, ground := Ground.guard } (by simp) rfl
      clear hdep ho
      revert hK
      obtain rfl := hr.f10 g10
      obtain rfl := hr.f14 g14
      intro hK
      try simp only [Act.put, List.setIfInBounds_toArray, List.set_cons_zero, List.set_cons_succ]
      rw [if_pos (by rfl)]
      try simp only [Act.put, List.setIfInBounds_toArray, List.set_cons_zero, List.set_cons_succ]
      go_simp
      exact hK.out _ _ (fun j => if j = 15 then true else ℓ j) ⟨x7, x8, x9, x10, x11, x12, x13, x14, x15, x16, .bool true, x18, x19, x20, .pointer (some ⟨b1, o1 + k * 3, none⟩), .pointer (some ⟨b1, o1 + k * 3 + 2, none⟩), x23, x24, x25, x26, x27, x28, x29, x6, (by simp only [Act.put, List.setIfInBounds_toArray, List.set_cons_zero, List.set_cons_succ]), ⟨hr.gb, hr.f0, hr.f1, hr.f2, hr.f3, hr.f4, hr.f5, hr.f6, hr.f7, hr.f8, hr.f9, (fun _ => rfl), hr.f11, hr.f12, hr.f13, (fun _ => rfl), (fun _ => rfl), hr.f16, hr.f17, hr.f18, hr.f19, hr.f20, hr.f21, hr.f22, hr.f23⟩⟩ (if_pos rfl) (fun j hj => if_neg hj)
    · obtain rfl := Option.some.inj ho
      have g15 : ℓ 15 = true := hdep { on := 15, ground := Ground.data } (by simp) rfl
      have g10 : ℓ 10 = true := hdep { on := 10, ground := Ground.guard } (by simp) rfl
      clear hdep ho
      revert hK
      obtain rfl := hr.f10 g10
      obtain rfl := hr.f15 g15
      have hcx := (HCX.out _ hr.gb).2
      intro hK
      try simp only [Act.put, List.setIfInBounds_toArray, List.set_cons_zero, List.set_cons_succ]
      rw [if_pos (by rfl)]
      try simp only [Act.put, List.setIfInBounds_toArray, List.set_cons_zero, List.set_cons_succ]
      go_simp
      exact hK.out _ _ (fun j => if j = 16 then true else ℓ j) ⟨x7, x8, x9, x10, x11, x12, x13, x14, x15, x16, .bool true, x18, x19, x20, x21, .pointer (some ⟨b1, o1 + k * 3 + 2, none⟩), .int .i64 z3, x24, x25, x26, x27, x28, x29, x6, (by simp only [Act.put, List.setIfInBounds_toArray, List.set_cons_zero, List.set_cons_succ]), ⟨hr.gb, hr.f0, hr.f1, hr.f2, hr.f3, hr.f4, hr.f5, hr.f6, hr.f7, hr.f8, hr.f9, (fun _ => rfl), hr.f11, hr.f12, hr.f13, hr.f14, (fun _ => rfl), (fun _ => rfl), hr.f17, hr.f18, hr.f19, hr.f20, hr.f21, hr.f22, hr.f23⟩⟩ (if_pos rfl) (fun j hj => if_neg hj)
    · obtain rfl := Option.some.inj ho
      have g10 : ℓ 10 = true := hdep { on := 10, ground := Ground.guard } (by simp) rfl
      clear hdep ho
      revert hK
      obtain rfl := hr.f10 g10
      intro hK
      try simp only [Act.put, List.setIfInBounds_toArray, List.set_cons_zero, List.set_cons_succ]
      rw [if_pos (by rfl)]
      try simp only [Act.put, List.setIfInBounds_toArray, List.set_cons_zero, List.set_cons_succ]
      go_simp
      exact hK.out _ _ (fun j => if j = 17 then true else ℓ j) ⟨x7, x8, x9, x10, x11, x12, x13, x14, x15, x16, .bool true, x18, x19, x20, x21, x22, x23, .int .i64 f, x25, x26, x27, x28, x29, x6, (by simp only [Act.put, List.setIfInBounds_toArray, List.set_cons_zero, List.set_cons_succ]), ⟨hr.gb, hr.f0, hr.f1, hr.f2, hr.f3, hr.f4, hr.f5, hr.f6, hr.f7, hr.f8, hr.f9, (fun _ => rfl), hr.f11, hr.f12, hr.f13, hr.f14, hr.f15, hr.f16, (fun _ => rfl), hr.f18, hr.f19, hr.f20, hr.f21, hr.f22, hr.f23⟩⟩ (if_pos rfl) (fun j hj => if_neg hj)
    · obtain rfl := Option.some.inj ho
      have g16 : ℓ 16 = true := hdep { on := 16, ground := Ground.data } (by simp) rfl
      have g17 : ℓ 17 = true := hdep { on := 17, ground := Ground.data } (by simp) rfl
      have g10 : ℓ 10 = true := hdep { on := 10, ground := Ground.guard } (by simp) rfl
      clear hdep ho
      revert hK
      obtain rfl := hr.f10 g10
      obtain rfl := hr.f16 g16
      obtain rfl := hr.f17 g17
      have hwr := HWR.out
      intro hK
      try simp only [Act.put, List.setIfInBounds_toArray, List.set_cons_zero, List.set_cons_succ]
      rw [if_pos (by rfl)]
      try simp only [Act.put, List.setIfInBounds_toArray, List.set_cons_zero, List.set_cons_succ]
      go_simp
      exact hK.out _ _ (fun j => if j = 18 then true else ℓ j) ⟨x7, x8, x9, x10, x11, x12, x13, x14, x15, x16, .bool true, x18, x19, x20, x21, x22, .int .i64 z3, .int .i64 f, .int .i64 (z3 - f), x26, x27, x28, x29, x6, (by simp only [Act.put, List.setIfInBounds_toArray, List.set_cons_zero, List.set_cons_succ]), ⟨hr.gb, hr.f0, hr.f1, hr.f2, hr.f3, hr.f4, hr.f5, hr.f6, hr.f7, hr.f8, hr.f9, (fun _ => rfl), hr.f11, hr.f12, hr.f13, hr.f14, hr.f15, (fun _ => rfl), (fun _ => rfl), (fun _ => rfl), hr.f19, hr.f20, hr.f21, hr.f22, hr.f23⟩⟩ (if_pos rfl) (fun j hj => if_neg hj)
    · replace ho : some ({ dst := some 26, op := Op.load 33 (Operand.tmp 3), type := 33, pos := "l23_plan.go:43", after := #[{ on := 10, ground := Ground.guard }], guard := some (10, true) } : Oper) = some o := ho
      obtain rfl := Option.some.inj ho
      have g10 : ℓ 10 = true := hdep { on := 10, ground := Ground.guard } (by simp) rfl
      clear hdep ho
      revert hK
      obtain rfl := hr.f10 g10
      intro hK
      try simp only [Act.put, List.setIfInBounds_toArray, List.set_cons_zero, List.set_cons_succ]
      rw [if_pos (by rfl)]
      try simp only [Act.put, List.setIfInBounds_toArray, List.set_cons_zero, List.set_cons_succ]
      refine wp_load_row (P := Tryz.prog) 33 (.tmp 3) rfl w.heap.size rfl 33 (tbA t a) (0, 0) _ (HXB.out _ hr.gb) Tryz.underlying33 rfl (by kernel_rfl) ?_
      exact hK.out _ _ (fun j => if j = 19 then true else ℓ j) ⟨x7, x8, x9, x10, x11, x12, x13, x14, x15, x16, .bool true, x18, x19, x20, x21, x22, x23, x24, x25, tbV t a, x27, x28, x29, x6, (by simp only [Act.put, List.setIfInBounds_toArray, List.set_cons_zero, List.set_cons_succ]), ⟨hr.gb, hr.f0, hr.f1, hr.f2, hr.f3, hr.f4, hr.f5, hr.f6, hr.f7, hr.f8, hr.f9, (fun _ => rfl), hr.f11, hr.f12, hr.f13, hr.f14, hr.f15, hr.f16, hr.f17, hr.f18, (fun _ => rfl), hr.f20, hr.f21, hr.f22, hr.f23⟩⟩ (if_pos rfl) (fun j hj => if_neg hj)
    · obtain rfl := Option.some.inj ho
      have g19 : ℓ 19 = true := hdep { on := 19, ground := Ground.data } (by simp) rfl
      have g10 : ℓ 10 = true := hdep { on := 10, ground := Ground.guard } (by simp) rfl
      clear hdep ho
      revert hK
      obtain rfl := hr.f10 g10
      obtain rfl := hr.f19 g19
      intro hK
      try simp only [Act.put, List.setIfInBounds_toArray, List.set_cons_zero, List.set_cons_succ]
      rw [if_pos (by rfl)]
      try simp only [Act.put, List.setIfInBounds_toArray, List.set_cons_zero, List.set_cons_succ]
      go_simp
      refine Calls.mono (HLO.out _) ?_
      rintro e w9 ⟨rfl, hb9⟩
      have hr9 := hr.below hb9
      exact hK.out _ _ (fun j => if j = 20 then true else ℓ j) ⟨x7, x8, x9, x10, x11, x12, x13, x14, x15, x16, .bool true, x18, x19, x20, x21, x22, x23, x24, x25, tbV t a, .int .i64 lost, x28, x29, x6, (by simp only [Act.put, List.setIfInBounds_toArray, List.set_cons_zero, List.set_cons_succ]), ⟨hr9.gb, hr9.f0, hr9.f1, hr9.f2, hr9.f3, hr9.f4, hr9.f5, hr9.f6, hr9.f7, hr9.f8, hr9.f9, (fun _ => rfl), hr9.f11, hr9.f12, hr9.f13, hr9.f14, hr9.f15, hr9.f16, hr9.f17, hr9.f18, (fun _ => rfl), (fun _ => rfl), hr9.f21, hr9.f22, hr9.f23⟩⟩ (if_pos rfl) (fun j hj => if_neg hj)
    · obtain rfl := Option.some.inj ho
      have g18 : ℓ 18 = true := hdep { on := 18, ground := Ground.data } (by simp) rfl
      have g20 : ℓ 20 = true := hdep { on := 20, ground := Ground.data } (by simp) rfl
      have g10 : ℓ 10 = true := hdep { on := 10, ground := Ground.guard } (by simp) rfl
      clear hdep ho
      revert hK
      obtain rfl := hr.f10 g10
      obtain rfl := hr.f18 g18
      obtain rfl := hr.f20 g20
      have hb1 := HQ.out
      intro hK
      try simp only [Act.put, List.setIfInBounds_toArray, List.set_cons_zero, List.set_cons_succ]
      rw [if_pos (by rfl)]
      try simp only [Act.put, List.setIfInBounds_toArray, List.set_cons_zero, List.set_cons_succ]
      go_simp
      exact hK.out _ _ (fun j => if j = 21 then true else ℓ j) ⟨x7, x8, x9, x10, x11, x12, x13, x14, x15, x16, .bool true, x18, x19, x20, x21, x22, x23, x24, .int .i64 (z3 - f), x26, .int .i64 lost, .bool q, x29, x6, (by simp only [Act.put, List.setIfInBounds_toArray, List.set_cons_zero, List.set_cons_succ]), ⟨hr.gb, hr.f0, hr.f1, hr.f2, hr.f3, hr.f4, hr.f5, hr.f6, hr.f7, hr.f8, hr.f9, (fun _ => rfl), hr.f11, hr.f12, hr.f13, hr.f14, hr.f15, hr.f16, hr.f17, (fun _ => rfl), hr.f19, (fun _ => rfl), (fun _ => rfl), hr.f22, hr.f23⟩⟩ (if_pos rfl) (fun j hj => if_neg hj)
    · obtain rfl := Option.some.inj ho
      have g10 : ℓ 10 = true := hdep { on := 10, ground := Ground.data } (by simp) rfl
      have g21 : ℓ 21 = true := hdep { on := 21, ground := Ground.data } (by simp) rfl
      clear hdep ho
      revert hK
      obtain rfl := hr.f10 g10
      obtain rfl := hr.f21 g21
      intro hK
      rw [if_pos (by rfl)]
      try simp only [Act.put, List.setIfInBounds_toArray, List.set_cons_zero, List.set_cons_succ]
      go_simp
      exact hK.out _ _ (fun j => if j = 22 then true else ℓ j) ⟨x7, x8, x9, x10, x11, x12, x13, x14, x15, x16, .bool true, x18, x19, x20, x21, x22, x23, x24, x25, x26, x27, .bool q, .bool q, x6, (by simp only [Act.put, List.setIfInBounds_toArray, List.set_cons_zero, List.set_cons_succ]), ⟨hr.gb, hr.f0, hr.f1, hr.f2, hr.f3, hr.f4, hr.f5, hr.f6, hr.f7, hr.f8, hr.f9, (fun _ => rfl), hr.f11, hr.f12, hr.f13, hr.f14, hr.f15, hr.f16, hr.f17, hr.f18, hr.f19, hr.f20, (fun _ => rfl), (fun _ => rfl), hr.f23⟩⟩ (if_pos rfl) (fun j hj => if_neg hj)
    · obtain rfl := Option.some.inj ho
      have g22 : ℓ 22 = true := hdep { on := 22, ground := Ground.data } (by simp) rfl
      clear hdep ho
      revert hK
      obtain rfl := hr.f22 g22
      intro hK
      rw [if_pos (by rfl)]
      try simp only [Act.put, List.setIfInBounds_toArray, List.set_cons_zero, List.set_cons_succ]
      go_simp
      exact hK.out _ _ (fun j => if j = 23 then true else ℓ j) ⟨x7, x8, x9, x10, x11, x12, x13, x14, x15, x16, x17, x18, x19, x20, x21, x22, x23, x24, x25, x26, x27, x28, .bool q, .bool q, (by simp only [Act.put, List.setIfInBounds_toArray, List.set_cons_zero, List.set_cons_succ]), ⟨hr.gb, hr.f0, hr.f1, hr.f2, hr.f3, hr.f4, hr.f5, hr.f6, hr.f7, hr.f8, hr.f9, hr.f10, hr.f11, hr.f12, hr.f13, hr.f14, hr.f15, hr.f16, hr.f17, hr.f18, hr.f19, hr.f20, hr.f21, (fun _ => rfl), (fun _ => rfl)⟩⟩ (if_pos rfl) (fun j hj => if_neg hj)
  · rintro a' w' ℓ ℓ' hℓ hI
    rw [← show ℓ = ℓ' from funext hℓ]
    exact hI
end Go.Proofs.YtmgopppgckgglaaGreatDoor
