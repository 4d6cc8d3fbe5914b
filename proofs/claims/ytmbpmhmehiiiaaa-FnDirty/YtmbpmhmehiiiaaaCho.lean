
/-
  Whether a cache holds an address: both sides alike. Conditions: the rows and their ways are at most 1048576 together.
-/
import Derived.Test.YtmbpmhmehiiiaaaRows
import Derived.Test.YtmbpmhmehiiiaaaCls
namespace Go.Proofs.Ytmbpmhmehiiiaaa
open Go.ChangeShapes Go.WideShapes Go.ChangeAt Go.RowKit Go.Deep
set_option linter.unusedVariables false

theorem is_addr (x : Int) (w : World) : Calls Try.prog 26 #[.int .i64 x] w fun e w' => e = .returned (.bool (inr x 0 65535)) ∧ w' = w := by
  by_cases h1 : 0 ≤ x
  · obtain ⟨q, HQ⟩ : ∃ q, Hid (inr x 0 65535 = q) := ⟨_, rfl⟩
    rw [HQ.out]
    go_enter Try.func26, Try.ntmps26
    go_wp2
    go_ret
    exact ⟨ret_bool (by rw [← HQ.out]; simp [inr, h1]), rfl⟩
  · rw [inr_no (fun g => h1 g.1)]
    go_enter Try.func26, Try.ntmps26
    go_wp2
    go_ret
    exact ⟨rfl, rfl⟩
theorem home_eq {S L A : Nat} {x : Int} (hx : wrap64 ((A : Int) / (L : Int)) = x) (hS : 1 ≤ S ∧ S ≤ 16) (hL : 4 ≤ L ∧ L ≤ 32) (hA : A ≤ 65535) : x.tmod (S : Int) = ((A / L % S : Nat) : Int) ∧ wrap64 (x.tdiv (S : Int)) = ((A / L / S : Nat) : Int) := by
  have e1 : (A : Int) / (L : Int) = ((A / L : Nat) : Int) := (Int.natCast_ediv A L).symm
  have hN : A / L ≤ 65535 := Nat.le_trans (Nat.div_le_self _ _) hA
  have hT : A / L / S ≤ 65535 := Nat.le_trans (Nat.div_le_self _ _) hN
  rw [e1] at hx
  generalize A / L = N at hx hN hT ⊢
  rw [IntWalk.wrap64_in _ (by omega)] at hx
  subst hx
  rw [Int.tmod_eq_emod_of_nonneg (Int.natCast_nonneg _), Int.tdiv_eq_ediv_of_nonneg (Int.natCast_nonneg _), ← Int.natCast_emod, ← Int.natCast_ediv]
  generalize N / S = t at hT ⊢
  exact ⟨rfl, IntWalk.wrap64_in _ (by omega)⟩
set_option maxHeartbeats 1000000 in
theorem home_any (S L A : Nat) (y : Int) (w : World) (hS : 1 ≤ S ∧ S ≤ 16) (hL : 4 ≤ L ∧ L ≤ 32) (hA : A ≤ 65535) : Calls Try.prog 28 #[shp S y L, .int .i64 A] w fun e w' => e = .returned (.tuple #[.int .i64 ((A / L % S : Nat) : Int), .int .i64 ((A / L / S : Nat) : Int)]) ∧ Below w.heap.size w w' := by
  have hLz : ¬ L = 0 := by omega
  have hSz : ¬ S = 0 := by omega
  have HB : Hid _ := (Below.refl _ w).alloc (Nat.le_refl _) (shrow 25 S y L)
  have HV : Hid _ := And.intro hL (And.intro hS hA)
  clear hL hS hA
  go_enter Try.func28, Try.ntmps28
  go_wp2
  generalize hx : wrap64 ((A : Int) / (L : Int)) = x
  have HX : Hid _ := hx
  clear hx
  go_region
  all_goals go_wp2
  all_goals
    obtain ⟨h1, h2⟩ := home_eq HX.out HV.out.2.1 HV.out.1 HV.out.2.2
    refine bodyPost_ret (v := .tuple #[.int .i64 (x.tmod (S : Int)), .int .i64 (wrap64 (x.tdiv (S : Int)))]) (by simp [results, Try.results28, go_sem]) rfl ⟨by rw [h1, h2], HB.out.drew⟩
def HoldP (s y l : Int) (n : Nat) (D : Nat → List Wy) (x : Int) : Prop := CacheOkP s y l n D ∧ (0 ≤ x ∧ x ≤ 65535) ∧ x / l ∈ allL s D n
theorem hold_iff {n L A : Nat} {y : Int} {D : Nat → List Wy} (h : CacheOkP (n : Int) y (L : Int) n D) (hA : A ≤ 65535) : HoldP (n : Int) y (L : Int) n D (A : Int) ↔ hasT (D (A / L % n)) ((A / L / n : Nat) : Int) = true := by
  have hp := shapeOk_parts h.1
  have hn : 0 < n := by omega
  have e1 : (A : Int) / (L : Int) = ((A / L : Nat) : Int) := (Int.natCast_ediv A L).symm
  have hlt : A / L % n < n := Nat.mod_lt _ hn
  have hline : ((A / L : Nat) : Int) = ((A / L / n : Nat) : Int) * (n : Int) + ((A / L % n : Nat) : Int) := by
    have := Nat.div_add_mod (A / L) n
    rw [← Int.natCast_mul, ← Int.natCast_add]
    congr 1
    rw [Nat.mul_comm]
    exact this.symm
  constructor
  · rintro ⟨_, _, hm⟩
    rw [e1] at hm
    obtain ⟨r, i, h1, h2, h3⟩ := mem_allL.1 hm
    obtain ⟨g1, g2⟩ := line_parts (s := (n : Int)) (r := ((A / L % n : Nat) : Int)) (r' := (r : Int)) ⟨by omega, by omega⟩ ⟨by omega, by omega⟩ (hline.symm.trans h3)
    have hr : r = A / L % n := by omega
    rw [← hr, g1]
    exact hasT_yes h2 rfl
  · intro hT
    refine ⟨h, ⟨by omega, by omega⟩, ?_⟩
    rw [e1]
    apply Classical.byContradiction
    intro hm
    rw [hasT_no (fun i hi e => hm (mem_allL.2 ⟨A / L % n, i, hlt, hi, ?_⟩))] at hT
    · cases hT
    · rw [hline, show tg (D (A / L % n)) i = _ from e]
set_option maxHeartbeats 2000000 in
theorem impl_hold (s y l x : Int) (a : Option Addr) (cap n : Nat) (D : Nat → List Wy) (w : World) (hs : RSeg w a n D) (hn : n ≤ 1048576) (ht : tot D n ≤ 1048576) (q : Bool) (hq : q = true ↔ HoldP s y l n D x) :
    Calls Try.prog 11 #[cch s y l (.slice a n cap), .int .i64 x] w fun e w' => e = .returned (.bool q) ∧ Below w.heap.size w w' := by
  obtain ⟨qc, hqc⟩ := told (CacheOkP s y l n D)
  have hal : Below w.heap.size w (w.alloc (.cells #[.int .i64 s, .int .i64 y, .int .i64 l, .slice a n cap] 34)) := (Below.refl _ _).alloc (Nat.le_refl _) _
  have HC : Hid _ := impl_cachek s y l a cap n D _ (RSeg.below hs hal) hn ht qc hqc
  have HB0 : Hid _ := hal
  have HS : Hid _ := hs
  have HQ : Hid _ := hq
  have HQC : Hid _ := hqc
  clear hs hal hq hqc
  go_enter Try.func11, Try.ntmps11
  go_wp2_with fail
  refine Calls.mono HC.out ?_
  rintro u w1 ⟨rfl, hb1⟩
  have HB1 : Hid _ := HB0.out.trans (hb1.mono HB0.out.size)
  have HK1 : Hid _ := (Bk.new w #[.int .i64 s, .int .i64 y, .int .i64 l, .slice a n cap] 34 w.heap.size rfl).below hb1
  clear hb1 HC HB0
  cases qc
  · have HF : Hid (false = q) := told_no HQ.out (fun h => by have := HQC.out.2 h.1; cases this)
    go_wp2
    go_ret
    exact ⟨ret_bool HF.out, HB1.out⟩
  obtain ⟨qz, HQZ⟩ : ∃ qz, Hid (inr x 0 65535 = qz) := ⟨_, rfl⟩
  go_wp2_with fail
  refine (is_addr x _).mono ?_
  rintro u w3 ⟨rfl, rfl⟩
  rw [HQZ.out]
  cases qz
  · have HF : Hid (false = q) := told_no HQ.out (fun h => by
      have h2 := inr_yes h.2.1
      rw [HQZ.out] at h2
      cases h2)
    go_wp2
    go_ret
    exact ⟨ret_bool HF.out, HB1.out⟩
  have HOK : Hid (CacheOkP s y l n D) := HQC.out.1 (by first | exact rfl | trivial)
  have hx := of_inr HQZ.out
  have hl := (shapeOk_parts HOK.out.1).2.2
  have hsn := (shapeOk_parts HOK.out.1).1
  have hsn2 := HOK.out.2.1
  obtain ⟨A, rfl⟩ : ∃ A : Nat, x = (A : Int) := ⟨x.toNat, by omega⟩
  obtain ⟨L, rfl⟩ : ∃ L : Nat, l = (L : Int) := ⟨l.toNat, by omega⟩
  subst hsn2
  have HQ2 : Hid (hasT (D (A / L % n)) ((A / L / n : Nat) : Int) = q) := by
    show _ = _
    have h1 := HQ.out
    rw [hold_iff HOK.out (by omega)] at h1
    cases q
    · cases h2 : hasT (D (A / L % n)) ((A / L / n : Nat) : Int)
      · rfl
      · have := h1.2 h2; cases this
    · exact h1.1 rfl
  have HH : Hid _ := fun X => home_any n L A y X ⟨by omega, by omega⟩ ⟨by omega, by omega⟩ (by omega)
  have hlt : A / L % n < n := Nat.mod_lt _ (by omega)
  obtain ⟨b1, o1, a1, c1, rfl, hbl1, e1, s1⟩ := RSeg.at (w := w) HS.out (A / L % n) hlt
  have hlen : (D (A / L % n)).length ≤ 1048576 := Nat.le_trans (tot_row D hlt) ht
  have HX : Hid _ := s1
  generalize A / L / n = t at HQ2 HH
  generalize hg : A / L % n = g at HQ2 HH hlt e1 HX hlen
  generalize D g = ws at HQ2 e1 HX hlen
  obtain ⟨len, Hlen⟩ : ∃ len, Hid (ws.length = len) := ⟨_, rfl⟩
  rw [Hlen.out] at e1 hlen
  have HE1 : Hid _ := e1
  clear hx hl HQZ hg s1 hbl1 e1 hsn HOK HQC HQ
  have c0 := HK1.out.cell 0 _ rfl
  have c1' := HK1.out.cell 1 _ rfl
  have c2 := HK1.out.cell 2 _ rfl
  go_wp2_with fail
  refine Calls.mono (HH.out _) ?_
  rintro u w4 ⟨rfl, hb4⟩
  have HB4 : Hid _ := HB1.out.trans (hb4.mono HB1.out.size)
  have k3 := (HK1.out.below hb4).cell 3 _ rfl
  have e1 := kept_cell HB4.out HE1.out
  clear hb4 HB1 HK1 c0 c1' c2 HH
  have hgn : (g : Int) < (n : Int) := by omega
  have hb : Below w4.heap.size w4 w4 := Below.refl _ _
  have HT : Hid (∀ X, Calls Try.prog 34 #[.int .i64 (t : Int)] X fun e w' => ∃ B, e = .returned (tagF B) ∧ Below X.heap.size X w' ∧ w'.cell? ⟨B, 0, none⟩ = some (.int .i64 (t : Int))) := fun X => has_tag' (t : Int) X
  have HCF : Hid (∀ X B, Below w4.heap.size w4 X → X.cell? ⟨B, 0, none⟩ = some (.int .i64 (t : Int)) → Calls Try.prog 33 #[.slice a1 len c1, tagF B] X fun e w' => e = .returned (.bool q) ∧ Below X.heap.size X w') := fun X B hX hc => by
    have := has_fn a1 c1 len B ws (t : Int) X (WSeg.below HX.out (HB4.out.trans (hX.mono HB4.out.size))) Hlen.out hlen hc
    rw [HQ2.out] at this
    exact this
  go_wp2
  go_region_held3 (fun w' => w'.cell? ⟨w.heap.size, 3, none⟩ = some (.slice (some ⟨b1, o1, none⟩) n cap) ∧ w'.cell? ⟨b1, o1 + g, none⟩ = some (.slice a1 len c1)) (first | exact ⟨k3, e1⟩) (first | (go_at_call 34; refine Calls.mono (HT.out _) ?_; rintro u w9 ⟨B9, rfl, hbb, c9⟩; (first | replace hb := hb.trans (hbb.mono hb.size) | replace hb := hb.drew.trans (hbb.mono hb.drew.size)); replace k3 := kept_cell hbb k3; replace e1 := kept_cell hbb e1; clear hbb) | (go_at_call 33; refine Calls.mono (HCF.out _ _ (by first | exact hb | exact hb.drew) c9) ?_; rintro u w8 ⟨rfl, hbb⟩; (first | replace hb := hb.trans (hbb.mono hb.size) | replace hb := hb.drew.trans (hbb.mono hb.drew.size)); replace k3 := kept_cell hbb k3; replace e1 := kept_cell hbb e1; clear hbb))
  have HB6 : Hid _ := HB4.out.trans (hb.mono HB4.out.size)
  clear hb k3 e1
  go_wp2
  go_ret
  exact ⟨rfl, HB6.out⟩
end Go.Proofs.Ytmbpmhmehiiiaaa
