
/-
  Where an access that nothing stands against lies in a guest's memory, and the word that is read there by the specification. Conditions: the guest is right for its windows.
-/
import Derived.Test.YtfdjfjkbbfcodaaBas
import Derived.Test.YtfdjfjkbbfcodaaProg
import Derived.Test.YtfdjfjkbbfcodaaGok
import Derived.Test.YtfdjfjkbbfcodaaFlt
import Derived.Test.YtfdjfjkbbfcodaaWof
namespace Go.Proofs.Ytfdjfjkbbfcodaa
open Go.ChangeShapes Go.WideShapes Go.ChangeAt Go.RowKit Go.Deep
set_option linter.unusedVariables false

def bt (D : Nat → List Int) (K i : Nat) : Int := (D K).getD i 0
/-- The word of 'S' bytes in row 'K' from place 'fr' on. -/
def getW (D : Nat → List Int) (K fr S : Nat) : Int := if S = 1 then bt D K fr else bt D K fr + 256 * bt D K (fr + 1) + 65536 * bt D K (fr + 2) + 16777216 * bt D K (fr + 3)
/-- An access of 'S' bytes at 'ad' lies in row 'K' from place 'fr' on; the window begins at 'bs'. -/
structure AccIn (xs : List Wn) (n : Nat) (D : Nat → List Int) (ad size : Int) (K fr S : Nat) (bs : Int) : Prop where
  lt : K < n
  base : (xs.getD K wn0).1 = bs
  bs0 : 0 ≤ bs
  bs1 : bs ≤ 2048
  at_ : ad = bs + (fr : Int)
  sz : size = (S : Int)
  s14 : S = 1 ∨ S = 4
  inn : fr + S ≤ (D K).length
  len : (D K).length ≤ 2048
theorem acc_in {xs : List Wn} {rs : List Int} {n : Nat} {D : Nat → List Int} {ad ra size kind p : Int} (hg : GOk xs rs n D) (hat : AtP xs n ad ra) (hacc : AccP size kind) (hf : FauP size kind ad ra p 0) : ∃ K fr S bs, ra = ((K : Nat) : Int) ∧ AccIn xs n D ad size K fr S bs := by
  obtain ⟨hw, _, _, hn, hrow⟩ := hg
  rcases hf with ⟨_, h⟩ | ⟨_, _, h⟩ | ⟨_, _, _, h⟩ | ⟨hm, h0, _, _⟩
  · cases h
  · cases h
  · cases h
  · rcases hat with ⟨h1, _⟩ | ⟨K, hK, rfl, ⟨hb1, hb2⟩, _⟩
    · omega
    · have hwo : WOk (xs.getD K wn0) := hw.at (by omega)
      have hr := hrow K hK
      obtain ⟨g1, g2, g3, g4, g5, _⟩ := hwo
      rcases hxe : xs.getD K wn0 with ⟨b, s, q⟩
      rw [hxe] at hb1 hb2 hr g1 g2 g3 g4 g5
      simp only at hb1 hb2 hr g1 g2 g3 g4 g5
      obtain ⟨fr, hfr⟩ := Int.eq_ofNat_of_zero_le (show 0 ≤ ad - b by omega)
      rcases hacc.1 with rfl | rfl
      · exact ⟨K, fr, 1, b, rfl, hK, by rw [hxe], g1, by omega, by omega, rfl, .inl rfl, by omega, by omega⟩
      · have hm4 := (tm4 ad).1 hm
        exact ⟨K, fr, 4, b, rfl, hK, by rw [hxe], g1, by omega, by omega, rfl, .inr rfl, by omega, by omega⟩
set_option maxHeartbeats 4000000 in
theorem spec_get1 (a ra ma : Option Addr) (cap wn rl rc n mc K fr : Nat) (pc bs : Int) (xs : List Wn) (D : Nat → List Int) (w : World) (hs : ASeg w a xs) (hl : xs.length = wn) (ho : WsOk xs) (hm : BSeg w ma n D) (hnw : n = wn) (hK : K < n) (hat : AtP xs wn (bs + (fr : Int)) (K : Int)) (hbs : (xs.getD K wn0).1 = bs) (hb0 : 0 ≤ bs) (hb1 : bs ≤ 2048) (hin : fr + 1 ≤ (D K).length) (hln : (D K).length ≤ 2048) (hb8 : ∀ z ∈ D K, (Lit.int .u8 z).wf = true) :
    Calls Try.prog 72 #[.slice a wn cap, gst ra rl rc pc ma n mc, .int .i64 (bs + (fr : Int)), .int .i64 1] w fun e w' => e = .returned (.int .u32 (getW D K fr 1)) ∧ Below w.heap.size w w' := by
  subst hnw
  have hbw : Below w.heap.size w (w.alloc (.cells #[.slice ra rl rc, .int .u32 pc, .slice ma n mc] 42)) := (Below.refl _ w).alloc (Nat.le_refl _) _
  have B0 := Bk.new w #[.slice ra rl rc, .int .u32 pc, .slice ma n mc] 42 w.heap.size rfl
  have HAT : Hid _ := spec_l07at a cap n xs (bs + (fr : Int)) (K : Int) _ (hs.below hbw) hl ho hat
  have HFX : Hid (∀ X, Below w.heap.size w X → (∃ b1 o1, a = some ⟨b1, o1, none⟩ ∧ X.cell? ⟨b1, o1 + K * 3, none⟩ = some (.int .i64 bs)) ∧ ∃ b2 o2 ai ci bi oi, ma = some ⟨b2, o2, none⟩ ∧ X.cell? ⟨b2, o2 + K, none⟩ = some (.slice (some ⟨bi, oi, none⟩) (D K).length ci) ∧ ai = some (⟨bi, oi, none⟩ : Addr) ∧ ∀ j, fr + j < (D K).length → X.cell? ⟨bi, oi + (fr + j), none⟩ = some (.int .u8 ((D K).getD (fr + j) 0))) := fun X hX => by
    obtain ⟨b1, o1, e, hbl1, p0, p1, p2⟩ := ASeg.at (hs.below hX) K (by rw [hl]; exact hK)
    rw [hbs] at p0
    obtain ⟨b2, o2, ai, ci, e2, hbl2, c2, s2⟩ := BSeg.at (hm.below hX) K hK
    obtain ⟨bi, oi, e3, hbl3, hc3⟩ := s2 (by omega)
    subst e3
    exact ⟨⟨b1, o1, e, p0⟩, b2, o2, _, ci, bi, oi, e2, c2, rfl, fun j hj => hc3 (fr + j) hj⟩
  have HB : Hid _ := hbw
  have HV : Hid _ := (rfl : getW D K fr 1 = getW D K fr 1)
  clear hs hl ho hm hat hbs hbw
  go_enter Try.func72, Try.ntmps72
  go_wp2_with fail
  refine Calls.mono HAT.out ?_
  rintro u w1 ⟨rfl, hb1'⟩
  have hbx := HB.out.trans (hb1'.mono HB.out.size)
  replace B0 := B0.below hb1'
  have c2 := B0.cell 2 _ rfl
  obtain ⟨⟨b1, o1, rfl, p0⟩, b2, o2, ai, ci, bi, oi, rfl, e2, rfl, hq⟩ := HFX.out w1 hbx
  have HBX : Hid _ := hbx
  have hcx := And.intro e2 hq
  have hi0 : fr + 0 < (D K).length := by omega
  have q0 := hcx.2 0 hi0
  obtain ⟨z0, HZ0⟩ : ∃ z, Hid ((D K).getD (fr + 0) 0 = z) := ⟨_, rfl⟩
  rw [HZ0.out] at q0
  have hz0 := hb8 _ (getD_mem (D K) (fr + 0) hi0)
  rw [HZ0.out] at hz0
  obtain ⟨y0, Y0⟩ := bounds_u8 hz0
  have HG : Hid (getW D K fr 1 = z0) := by
    have e0 : (D K).getD fr 0 = z0 := HZ0.out
    show getW D K fr 1 = _
    unfold getW bt
    rw [if_pos rfl]; exact e0
  obtain ⟨len, Hlen⟩ : ∃ len, Hid ((D K).length = len) := ⟨_, rfl⟩
  rw [Hlen.out] at e2 hin hln hi0
  have hK' : (K : Int) < (n : Int) := by omega
  have hw0 : IntKind.i64.wrap (bs + (fr : Int) - bs) = (fr : Int) := by rw [IntKind.wrap_i64]; omega
  have hw1 : IntKind.i64.wrap (0) = 0 := by rw [IntKind.wrap_i64]; omega
  have hw2 : IntKind.i64.wrap ((fr : Int)) = (fr : Int) := by rw [IntKind.wrap_i64]; omega
  have hw3 : IntKind.i64.wrap (z0) = z0 := by rw [IntKind.wrap_i64]; omega
  rw [Nat.add_zero] at q0 hi0
  clear hcx hq hb8 B0 hb1' hbx HAT HB HFX hz0 HZ0 HV
  go_wp2
  refine wp_loop_rounds 2 ?_
  rw [rounds_succ]
  go_wp2
  go_quiet (fail)
  go_wp2
  rw [rounds_succ]
  go_wp2
  go_ret
  exact ⟨ret_int (by have := HG.out; omega), below_drewN HBX.out _⟩
set_option maxHeartbeats 4000000 in
theorem spec_get4 (a ra ma : Option Addr) (cap wn rl rc n mc K fr : Nat) (pc bs : Int) (xs : List Wn) (D : Nat → List Int) (w : World) (hs : ASeg w a xs) (hl : xs.length = wn) (ho : WsOk xs) (hm : BSeg w ma n D) (hnw : n = wn) (hK : K < n) (hat : AtP xs wn (bs + (fr : Int)) (K : Int)) (hbs : (xs.getD K wn0).1 = bs) (hb0 : 0 ≤ bs) (hb1 : bs ≤ 2048) (hin : fr + 4 ≤ (D K).length) (hln : (D K).length ≤ 2048) (hb8 : ∀ z ∈ D K, (Lit.int .u8 z).wf = true) :
    Calls Try.prog 72 #[.slice a wn cap, gst ra rl rc pc ma n mc, .int .i64 (bs + (fr : Int)), .int .i64 4] w fun e w' => e = .returned (.int .u32 (getW D K fr 4)) ∧ Below w.heap.size w w' := by
  subst hnw
  have hbw : Below w.heap.size w (w.alloc (.cells #[.slice ra rl rc, .int .u32 pc, .slice ma n mc] 42)) := (Below.refl _ w).alloc (Nat.le_refl _) _
  have B0 := Bk.new w #[.slice ra rl rc, .int .u32 pc, .slice ma n mc] 42 w.heap.size rfl
  have HAT : Hid _ := spec_l07at a cap n xs (bs + (fr : Int)) (K : Int) _ (hs.below hbw) hl ho hat
  have HFX : Hid (∀ X, Below w.heap.size w X → (∃ b1 o1, a = some ⟨b1, o1, none⟩ ∧ X.cell? ⟨b1, o1 + K * 3, none⟩ = some (.int .i64 bs)) ∧ ∃ b2 o2 ai ci bi oi, ma = some ⟨b2, o2, none⟩ ∧ X.cell? ⟨b2, o2 + K, none⟩ = some (.slice (some ⟨bi, oi, none⟩) (D K).length ci) ∧ ai = some (⟨bi, oi, none⟩ : Addr) ∧ ∀ j, fr + j < (D K).length → X.cell? ⟨bi, oi + (fr + j), none⟩ = some (.int .u8 ((D K).getD (fr + j) 0))) := fun X hX => by
    obtain ⟨b1, o1, e, hbl1, p0, p1, p2⟩ := ASeg.at (hs.below hX) K (by rw [hl]; exact hK)
    rw [hbs] at p0
    obtain ⟨b2, o2, ai, ci, e2, hbl2, c2, s2⟩ := BSeg.at (hm.below hX) K hK
    obtain ⟨bi, oi, e3, hbl3, hc3⟩ := s2 (by omega)
    subst e3
    exact ⟨⟨b1, o1, e, p0⟩, b2, o2, _, ci, bi, oi, e2, c2, rfl, fun j hj => hc3 (fr + j) hj⟩
  have HB : Hid _ := hbw
  have HV : Hid _ := (rfl : getW D K fr 4 = getW D K fr 4)
  clear hs hl ho hm hat hbs hbw
  go_enter Try.func72, Try.ntmps72
  go_wp2_with fail
  refine Calls.mono HAT.out ?_
  rintro u w1 ⟨rfl, hb1'⟩
  have hbx := HB.out.trans (hb1'.mono HB.out.size)
  replace B0 := B0.below hb1'
  have c2 := B0.cell 2 _ rfl
  obtain ⟨⟨b1, o1, rfl, p0⟩, b2, o2, ai, ci, bi, oi, rfl, e2, rfl, hq⟩ := HFX.out w1 hbx
  have HBX : Hid _ := hbx
  have hcx := And.intro e2 hq
  have hi0 : fr + 0 < (D K).length := by omega
  have hi1 : fr + 1 < (D K).length := by omega
  have hi2 : fr + 2 < (D K).length := by omega
  have hi3 : fr + 3 < (D K).length := by omega
  have q0 := hcx.2 0 hi0
  have q1 := hcx.2 1 hi1
  have q2 := hcx.2 2 hi2
  have q3 := hcx.2 3 hi3
  obtain ⟨z0, HZ0⟩ : ∃ z, Hid ((D K).getD (fr + 0) 0 = z) := ⟨_, rfl⟩
  rw [HZ0.out] at q0
  have hz0 := hb8 _ (getD_mem (D K) (fr + 0) hi0)
  rw [HZ0.out] at hz0
  obtain ⟨y0, Y0⟩ := bounds_u8 hz0
  obtain ⟨z1, HZ1⟩ : ∃ z, Hid ((D K).getD (fr + 1) 0 = z) := ⟨_, rfl⟩
  rw [HZ1.out] at q1
  have hz1 := hb8 _ (getD_mem (D K) (fr + 1) hi1)
  rw [HZ1.out] at hz1
  obtain ⟨y1, Y1⟩ := bounds_u8 hz1
  obtain ⟨z2, HZ2⟩ : ∃ z, Hid ((D K).getD (fr + 2) 0 = z) := ⟨_, rfl⟩
  rw [HZ2.out] at q2
  have hz2 := hb8 _ (getD_mem (D K) (fr + 2) hi2)
  rw [HZ2.out] at hz2
  obtain ⟨y2, Y2⟩ := bounds_u8 hz2
  obtain ⟨z3, HZ3⟩ : ∃ z, Hid ((D K).getD (fr + 3) 0 = z) := ⟨_, rfl⟩
  rw [HZ3.out] at q3
  have hz3 := hb8 _ (getD_mem (D K) (fr + 3) hi3)
  rw [HZ3.out] at hz3
  obtain ⟨y3, Y3⟩ := bounds_u8 hz3
  have HG : Hid (getW D K fr 4 = z0 + 256 * z1 + 65536 * z2 + 16777216 * z3) := by
    have e0 : (D K).getD fr 0 = z0 := HZ0.out
    show getW D K fr 4 = _
    unfold getW bt
    rw [if_neg (by omega), e0, HZ1.out, HZ2.out, HZ3.out]
  obtain ⟨len, Hlen⟩ : ∃ len, Hid ((D K).length = len) := ⟨_, rfl⟩
  rw [Hlen.out] at e2 hin hln hi0 hi1 hi2 hi3
  have hK' : (K : Int) < (n : Int) := by omega
  have hw0 : IntKind.i64.wrap (bs + (fr : Int) - bs) = (fr : Int) := by rw [IntKind.wrap_i64]; omega
  have hw1 : IntKind.i64.wrap (0) = 0 := by rw [IntKind.wrap_i64]; omega
  have hw2 : IntKind.i64.wrap ((fr : Int)) = (fr : Int) := by rw [IntKind.wrap_i64]; omega
  have hw3 : IntKind.i64.wrap ((fr : Int) + 1) = (fr : Int) + 1 := by rw [IntKind.wrap_i64]; omega
  have hw4 : IntKind.i64.wrap ((fr : Int) + 2) = (fr : Int) + 2 := by rw [IntKind.wrap_i64]; omega
  have hw5 : IntKind.i64.wrap ((fr : Int) + 3) = (fr : Int) + 3 := by rw [IntKind.wrap_i64]; omega
  have hw6 : IntKind.i64.wrap (z3) = z3 := by rw [IntKind.wrap_i64]; omega
  have hw7 : IntKind.i64.wrap (256 * z3) = 256 * z3 := by rw [IntKind.wrap_i64]; omega
  have hw8 : IntKind.i64.wrap (256 * z3 + z2) = 256 * z3 + z2 := by rw [IntKind.wrap_i64]; omega
  have hw9 : IntKind.i64.wrap (256 * (256 * z3 + z2)) = 256 * (256 * z3 + z2) := by rw [IntKind.wrap_i64]; omega
  have hw10 : IntKind.i64.wrap (256 * (256 * z3 + z2) + z1) = 256 * (256 * z3 + z2) + z1 := by rw [IntKind.wrap_i64]; omega
  have hw11 : IntKind.i64.wrap (256 * (256 * (256 * z3 + z2) + z1)) = 256 * (256 * (256 * z3 + z2) + z1) := by rw [IntKind.wrap_i64]; omega
  have hw12 : IntKind.i64.wrap (256 * (256 * (256 * z3 + z2) + z1) + z0) = 256 * (256 * (256 * z3 + z2) + z1) + z0 := by rw [IntKind.wrap_i64]; omega
  rw [Nat.add_zero] at q0 hi0
  clear hcx hq hb8 B0 hb1' hbx HAT HB HFX hz0 HZ0 hz1 HZ1 hz2 HZ2 hz3 HZ3 HV
  go_wp2
  refine wp_loop_rounds 5 ?_
  rw [rounds_succ]
  go_wp2
  go_quiet (fail)
  go_wp2
  rw [rounds_succ]
  go_wp2
  go_quiet (fail)
  go_wp2
  rw [rounds_succ]
  go_wp2
  go_quiet (fail)
  go_wp2
  rw [rounds_succ]
  go_wp2
  go_quiet (fail)
  go_wp2
  rw [rounds_succ]
  go_wp2
  go_ret
  exact ⟨ret_int (by have := HG.out; omega), below_drewN HBX.out _⟩
end Go.Proofs.Ytfdjfjkbbfcodaa
