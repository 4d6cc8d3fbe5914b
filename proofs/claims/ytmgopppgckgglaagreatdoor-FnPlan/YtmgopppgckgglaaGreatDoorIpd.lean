
/-
  Slots planned for what partitions need, by the program. Conditions: the lists lie in memory; the needs are right.
-/
import Derived.Test.YtmgopppgckgglaaGreatDoorBas
import Derived.Test.YtmgopppgckgglaaGreatDoorIpe
import Derived.Test.YtmgopppgckgglaaGreatDoorJsp
import Derived.Great.BuildSlice
namespace Go.Proofs.YtmgopppgckgglaaGreatDoor
open Go.ChangeShapes Go.WideShapes Go.ChangeAt Go.RowKit Go.Deep Go.Joins
set_option linter.unusedVariables false

theorem row_cells3 {X : World} {B : Nat} {x y z : Value} {ty : TypeId} (h : X.heap[B]? = some (.cells #[x, y, z] ty (0, 0))) : ∀ j u, ([x, y, z] : List Value)[j]? = some u → X.cell? ⟨B, 0 + j, none⟩ = some u := fun j u hj => by
  rw [Nat.zero_add]
  have h3 : j < 3 := (List.getElem?_eq_some_iff.1 hj).1
  have hc : j = 0 ∨ j = 1 ∨ j = 2 := by omega
  rcases hc with rfl | rfl | rfl <;> (injection hj with hj; subst hj; simp [World.cell?, h])
structure Rpd (W0 : World) (Z C : Array Value) (v0 : Value) (v1 : Value) (v2 : Value) (v3 : Value) (v4 : Value) (v5 : Value) (v6 : Value) (v7 : Value) (v8 : Value) (w' : World) (b0 b1 b2 b3 b4 b5 b6 b7 b8 b9 b10 b11 : Bool) (x20 x21 x22 x23 x24 x25 x26 x27 x28 x29 x8 : Value) : Prop where
  cs : b11 = true → b0 = true ∧ b1 = true ∧ b2 = true ∧ b3 = true ∧ b4 = true ∧ b5 = true ∧ b6 = true ∧ b7 = true ∧ b8 = true ∧ b9 = true ∧ b10 = true ∧ True
  gb : Below W0.heap.size W0 w'
  f0 : b0 = true → x20 = v0
  f1 : b1 = true → x21 = v1
  f2 : b2 = true → x22 = v2
  f3 : b3 = true → x23 = v3
  f4 : b4 = true → x24 = v4
  f5 : b5 = true → x25 = v0
  f6 : b6 = true → x26 = v5
  f7 : b7 = true → x27 = v6
  f8 : b8 = true → x28 = v7
  f9 : b9 = true → x29 = v8
  f10 : b10 = true → ∃ N, x8 = .pointer (some ⟨N, 0, none⟩) ∧ W0.heap.size ≤ N ∧ (b11 = false → w'.heap[N]? = some (.cells Z 46 (0, 0))) ∧ (b11 = true → w'.heap[N]? = some (.cells C 46 (0, 0)))
theorem Rpd.below {W0 : World} {Z C : Array Value} {v0 : Value} {v1 : Value} {v2 : Value} {v3 : Value} {v4 : Value} {v5 : Value} {v6 : Value} {v7 : Value} {v8 : Value} {w' w9 : World} {b0 b1 b2 b3 b4 b5 b6 b7 b8 b9 b10 b11 : Bool} {x20 x21 x22 x23 x24 x25 x26 x27 x28 x29 x8 : Value} (h : Rpd W0 Z C v0 v1 v2 v3 v4 v5 v6 v7 v8 w' b0 b1 b2 b3 b4 b5 b6 b7 b8 b9 b10 b11 x20 x21 x22 x23 x24 x25 x26 x27 x28 x29 x8) (hb : Below w'.heap.size w' w9) : Rpd W0 Z C v0 v1 v2 v3 v4 v5 v6 v7 v8 w9 b0 b1 b2 b3 b4 b5 b6 b7 b8 b9 b10 b11 x20 x21 x22 x23 x24 x25 x26 x27 x28 x29 x8 :=
  ⟨h.cs, h.gb.trans (hb.mono h.gb.size), h.f0, h.f1, h.f2, h.f3, h.f4, h.f5, h.f6, h.f7, h.f8, h.f9, fun g => (h.f10 g).imp fun N k => ⟨k.1, k.2.1, fun s => row_below (k.2.2.1 s) hb, fun s => row_below (k.2.2.2 s) hb⟩⟩
/-- A slot behind the planned ones, and where it ends, in whatever order what they are made of comes up. -/
structure Rpq (W0 : World) (LB N : Nat) (A : Option Addr) (len cap : Nat) (C : Array Value) (G0 G1 : List Value) (at0 e0 : Int) (w' : World) (b0 b1 b2 b3 b4 b5 b6 b7 : Bool) (x30 x31 x32 x33 x34 x35 x5 x6 : Value) : Prop where
  c3 : b3 = true → b0 = true ∧ b1 = true ∧ b2 = true
  c2 : b2 = true → b1 = true
  c5 : b5 = true → b3 = true ∧ b4 = true
  c6 : b6 = true → b3 = true ∧ b5 = true
  c7 : b7 = true → b6 = true ∧ b5 = true
  gb : Below LB W0 w'
  rn : w'.heap[N]? = some (.cells C 46 (0, 0))
  ow : b3 = false → w'.ownsRow LB 46 3 (.slice A len cap) len G0
  f0 : b0 = true → x30 = .slice A len cap
  f1 : b1 = true → x31 = .agg C
  f2 : b2 = true → ∃ M, x32 = .slice (some ⟨M, 0, none⟩) 1 1 ∧ (b3 = false → w'.heap[M]? = some (.cells C 46 (0, 0)))
  f3 : b3 = true → ∃ A' c, x33 = .slice A' (len + 1) c ∧ len + 1 ≤ c ∧ w'.ownsRow LB 46 3 (.slice A' (len + 1) c) (len + 1) G1
  f4 : b4 = true → x34 = .agg C
  f5 : b5 = true → x35 = .int .i64 e0
  g6 : b6 = false → x5 = .slice A len cap
  f6 : b6 = true → x5 = x33
  g7 : b7 = false → x6 = .int .i64 at0
  f7 : b7 = true → x6 = .int .i64 e0
set_option maxRecDepth 40000 in
set_option maxHeartbeats 16000000 in
theorem impl_planned (t : Tb) (a : Ad) (na : Option Addr) (n nc : Nat) (zs : List Int) (w : World) (hns : GSeg 1 w na n (inX zs)) (hnl : zs.length = n) (hn6 : 1 ≤ n ∧ n ≤ 6) (hp : 1 ≤ t.pad ∧ t.pad ≤ 5000) (hg : 1 ≤ t.grd ∧ t.grd ≤ 5000) (hz : ∀ i, i < n → 0 ≤ zs.getD i 0 ∧ zs.getD i 0 ≤ 5000) :
    Calls Tryz.prog 36 #[tbV t a, .slice na n nc] w fun e w' => ∃ aa len cap, e = .returned (.slice aa len cap) ∧ Below w.heap.size w w' ∧ (plM t zs n).length = len ∧ len ≤ cap ∧ LS 3 w.heap.size w'.heap.size w' aa len (slX (plM t zs n)) := by
  have HPP : Hid ((1 ≤ t.pad ∧ t.pad ≤ 5000) ∧ (1 ≤ t.grd ∧ t.grd ≤ 5000) ∧ ∀ i, i < n → 0 ≤ zs.getD i 0 ∧ zs.getD i 0 ≤ 5000) := ⟨hp, hg, hz⟩
  obtain ⟨b1, o1, hna, _, _⟩ := hns.at 0 (by omega)
  have HNC : Hid (∀ X, Below w.heap.size w X → ∀ m, m < n → X.cell? ⟨b1, o1 + m, none⟩ = some (.int .i64 (zs.getD m 0))) := fun X hX m hm => by
    obtain ⟨b9, o9, h9, _, p9⟩ := (hns.below hX).at m hm
    rw [hna] at h9
    injection h9 with e
    injection e with e1 e2
    subst e1 e2
    rw [Nat.mul_one] at p9
    exact in_cell p9
  subst hna
  have HLO : Hid (∀ X, Calls Tryz.prog 40 #[tbV t a] X fun e w' => e = .returned (.int .i64 (t.pad + t.grd)) ∧ Below X.heap.size X w') := fun X => lost_any t a X hp hg
  have HB1 : Hid (Below w.heap.size w (w.alloc (.cells (tbA t a) 33))) := (Below.refl _ _).alloc (Nat.le_refl _) _
  have HX1 : Hid (TBx (w.alloc (.cells (tbA t a) 33)) w.heap.size t a) := TBx.new w t a _ rfl
  have HOW0 : Hid (((w.alloc (.cells (tbA t a) 33)).alloc (.cells #[] 46)).ownsRow (w.heap.size + 1) 46 3 (.slice (some ⟨w.heap.size + 1, 0, none⟩) 0 0) 0 []) := by have h := own_lit0 (w.alloc (.cells (tbA t a) 33)) 46 3; simp at h; exact h
  have hbL : Below (w.alloc (.cells (tbA t a) 33)).heap.size (w.alloc (.cells (tbA t a) 33)) ((w.alloc (.cells (tbA t a) 33)).alloc (.cells #[] 46)) := (Below.refl _ _).alloc (Nat.le_refl _) _
  have HBL : Hid (Below w.heap.size w ((w.alloc (.cells (tbA t a) 33)).alloc (.cells #[] 46))) := HB1.out.trans (hbL.mono HB1.out.size)
  have HXL : Hid (TBx ((w.alloc (.cells (tbA t a) 33)).alloc (.cells #[] 46)) w.heap.size t a) := HX1.out.below hbL
  have HLL : Hid (w.heap.size + 1 < ((w.alloc (.cells (tbA t a) 33)).alloc (.cells #[] 46)).heap.size) := by show _ < _; simp
  have HLB0 : Hid (w.heap.size < w.heap.size + 1) := by show _ < _; omega
  have HNL : Hid (zs.length = n) := hnl
  clear hbL HB1 HX1 hns hp hg hz hnl
  obtain ⟨iS, hi1, hi2, hi3, hi4⟩ := sli
  have HIS : Hid (Tryz.prog.info? 46 = some iS ∧ iS.zero = some (.agg #[.int .i64 0, .int .i64 0, .int .i64 0]) ∧ iS.size = 3 ∧ iS.bytes = 24) := ⟨hi1, hi2, hi3, hi4⟩
  clear hi1 hi2 hi3 hi4
  go_enter Tryz.func36, Tryz.ntmps36
  go_wp2
  revert HOW0 HBL HXL HLL HLB0
  generalize (w.alloc (.cells (tbA t a) 33)).alloc (.cells #[] 46) = W4
  generalize w.heap.size + 1 = LB
  intro HOW0 HBL HXL HLL HLB0
  go_loopw [5, 6, 12] (fun vs va vi wr => ∃ (m len cap : Nat) (aa : Option Addr), m ≤ n ∧ vs = .slice aa len cap ∧ va = .int .i64 (plAt t zs m) ∧ vi = .int .i64 (m : Int) ∧ len ≤ cap ∧ len ≤ m ∧ Hid ((plM t zs m).length = len) ∧ Hid (Below w.heap.size w wr) ∧ Hid (TBx wr w.heap.size t a) ∧ Hid (wr.ownsRow LB 46 3 (.slice aa len cap) len (gcat (slX (plM t zs m)) len)) ∧ Hid (LB < wr.heap.size)) (fun _ _ vi _ => n - (intOf vi).toNat)
  case atStart => exact ⟨0, 0, 0, some ⟨LB, 0, none⟩, by omega, rfl, rfl, rfl, by omega, by omega, rfl, HBL.out, HXL.out, HOW0.out, HLL.out⟩
  case round =>
    clear HBL HXL HOW0 HLL
    obtain ⟨m, len, cap, aa, hm, rfl, rfl, rfl, hlc, hlm, HLN, HB, HX, HOW, HLB⟩ := hrel
    by_cases hlt : m < n
    rotate_left
    · obtain rfl : m = n := by omega
      have hni : ¬ ((m : Int) < (m : Int)) := by omega
      obtain ⟨AN, cap2, eA, hc2, hls⟩ := own_ls (k := 3) (fun j _ => slX_len _ j) HOW.out
      cases eA
      have HLS : Hid (LS 3 w.heap.size wr.heap.size wr aa len (slX (plM t zs m))) := hls.wide (by have := HLB0.out; omega) (Nat.le_refl _)
      clear hls HOW HX
      go_wp2
      go_ret
      exact ⟨aa, len, cap, rfl, HB.out, HLN.out, hlc, HLS.out⟩
    have hlt' : (m : Int) < (n : Int) := by omega
    have HMN : Hid ((m : Int) < (n : Int)) := hlt'
    have HLE : Hid (len ≤ 6) := by show _ ≤ _; omega
    have HPT : Hid (0 ≤ plAt t zs m ∧ plAt t zs m ≤ (m : Int) * 15000) := plAt_rng HPP.out.1 HPP.out.2.1 m (fun i hi => HPP.out.2.2 i (by omega))
    obtain ⟨at0, HAT⟩ : ∃ x, Hid (plAt t zs m = x) := ⟨_, rfl⟩
    rw [HAT.out] at HPT ⊢
    obtain ⟨z, HZ⟩ : ∃ z, Hid (zs.getD m 0 = z) := ⟨_, rfl⟩
    have HZR : Hid (0 ≤ z ∧ z ≤ 5000) := by have h := HPP.out.2.2 m hlt; rw [HZ.out] at h; exact h
    have kz : wr.cell? ⟨b1, o1 + m, none⟩ = some (.int .i64 z) := by rw [← HZ.out]; exact HNC.out wr HB.out m hlt
    by_cases hz0 : z = 0
    · have hz0b : (z == 0) = true := by simp [hz0]
      have hnz : ¬ 0 < zs.getD m 0 := by rw [HZ.out]; omega
      have HPM : Hid (plM t zs (m + 1) = plM t zs m) := if_neg hnz
      have HPX : Hid (plAt t zs (m + 1) = at0) := (if_neg hnz : plAt t zs (m + 1) = plAt t zs m).trans HAT.out
      have HLN2 : Hid ((plM t zs (m + 1)).length = len) := by show _ = _; rw [HPM.out]; exact HLN.out
      have HO2 : Hid (wr.ownsRow LB 46 3 (.slice aa len cap) len (gcat (slX (plM t zs (m + 1))) len)) := by show World.ownsRow _ _ _ _ _ _ _; rw [HPM.out]; exact HOW.out
      clear HOW HLN hz0 hnz
      go_wp2
      go_roundw
      case rel => exact ⟨m + 1, len, cap, aa, by omega, rfl, by rw [HPX.out], by first | rfl | go_num, hlc, by omega, HLN2.out, HB.out, HX.out, HO2.out, HLB.out⟩
      case measure => simp [intOf]; omega
    have hz0b : (z == 0) = false := by simp [hz0]
    have hpz : 0 < zs.getD m 0 := by rw [HZ.out]; have := HZR.out; omega
    have HPM : Hid (plM t zs (m + 1) = plM t zs m ++ [((m : Int), at0, t.pad + t.grd + z)]) := by
      have h : plM t zs (m + 1) = plM t zs m ++ [((m : Int), plAt t zs m, t.pad + t.grd + zs.getD m 0)] := if_pos hpz
      rw [HAT.out, HZ.out] at h
      exact h
    have HPX : Hid (plAt t zs (m + 1) = at0 + (t.pad + t.grd + z)) := by
      have h : plAt t zs (m + 1) = plAt t zs m + (t.pad + t.grd + zs.getD m 0) := if_pos hpz
      rw [HAT.out, HZ.out] at h
      exact h
    have HQC : Hid (∀ X, Below wr.heap.size wr X → X.cell? ⟨b1, o1 + m, none⟩ = some (.int .i64 z)) := fun X hX => by rw [← HZ.out]; exact HNC.out X (HB.out.trans (hX.mono HB.out.size)) m hlt
    have HXG : Hid (∀ X, Below wr.heap.size wr X → TBx X w.heap.size t a) := fun X hX => HX.out.below hX
    have HWR : Hid (IntKind.i64.wrap (t.pad + t.grd) = t.pad + t.grd ∧ IntKind.i64.wrap (t.pad + t.grd + z) = t.pad + t.grd + z ∧ IntKind.i64.wrap (at0 + (t.pad + t.grd + z)) = at0 + (t.pad + t.grd + z)) := by
      have h1 := HPP.out.1
      have h2 := HPP.out.2.1
      have h3 := HPT.out
      have h4 := HZR.out
      refine ⟨?_, ?_, ?_⟩ <;> (rw [IntKind.wrap_i64]; omega)
    have HEND : Hid (∀ Y, Calls Tryz.prog 62 #[.agg #[.int .i64 (m : Int), .int .i64 at0, .int .i64 (t.pad + t.grd + z)]] Y fun e w' => e = .returned (.int .i64 (at0 + (t.pad + t.grd + z))) ∧ Below Y.heap.size Y w') := fun Y => slot_end (m : Int) at0 (t.pad + t.grd + z) Y HWR.out.2.2
    have HGC : Hid (gcat (slX (plM t zs (m + 1))) (len + 1) = gcat (slX (plM t zs m)) len ++ [.int .i64 (m : Int), .int .i64 at0, .int .i64 (t.pad + t.grd + z)]) := by
      have e := slX_app (plM t zs m) [((m : Int), at0, t.pad + t.grd + z)]
      rw [List.length_append, HLN.out] at e
      show _ = _
      rw [HPM.out]
      exact e
    have HLN2 : Hid ((plM t zs (m + 1)).length = len + 1) := by
      show _ = _
      rw [HPM.out, List.length_append, HLN.out]
      rfl
    clear hz0 hpz
    go_wp2
    clear kz
    refine wp_region_inv (by kernel_rfl) (by kernel_rfl) (fun A ℓ a' w' => ∃ (x20 x21 x22 x23 x24 x25 x26 x27 x28 x29 x8 : Value), a' = (((((((((((A.put (some 20) x20).put (some 21) x21).put (some 22) x22).put (some 23) x23).put (some 24) x24).put (some 25) x25).put (some 26) x26).put (some 27) x27).put (some 28) x28).put (some 29) x29).put (some 8) x8) ∧ Rpd (wr) (#[.int .i64 0, .int .i64 0, .int .i64 0]) (#[.int .i64 (m : Int), .int .i64 at0, .int .i64 (t.pad + t.grd + z)]) (.int .i64 (m : Int)) (.int .i64 at0) (tbV t a) (.int .i64 (t.pad + t.grd)) (.slice (some ⟨b1, o1, none⟩) n nc) (.pointer (some ⟨b1, o1 + m, none⟩)) (.int .i64 z) (.int .i64 (t.pad + t.grd + z)) (.agg #[.int .i64 (m : Int), .int .i64 at0, .int .i64 (t.pad + t.grd + z)]) w' (ℓ 0) (ℓ 1) (ℓ 2) (ℓ 3) (ℓ 4) (ℓ 5) (ℓ 6) (ℓ 7) (ℓ 8) (ℓ 9) (ℓ 10) (ℓ 11) x20 x21 x22 x23 x24 x25 x26 x27 x28 x29 x8) ?_ ?_ ?_ ?_
    · exact ⟨u20, u21, u22, u23, u24, u25, u26, u27, u28, u29, u8, (by simp only [Act.put, List.setIfInBounds_toArray, List.set_cons_zero, List.set_cons_succ]), ⟨(fun g => by cases g), (Below.refl _ _).drew, (fun g => by cases g), (fun g => by cases g), (fun g => by cases g), (fun g => by cases g), (fun g => by cases g), (fun g => by cases g), (fun g => by cases g), (fun g => by cases g), (fun g => by cases g), (fun g => by cases g), (fun g => by cases g)⟩⟩
    · intro ℓ a' w' hI hall
      obtain ⟨x20, x21, x22, x23, x24, x25, x26, x27, x28, x29, x8, rfl, hr⟩ := hI
      have hall' : ∀ i, i < 12 → ℓ i = true := hall
      obtain rfl := hr.f0 (hall' 0 (by decide))
      obtain rfl := hr.f1 (hall' 1 (by decide))
      obtain rfl := hr.f2 (hall' 2 (by decide))
      obtain rfl := hr.f3 (hall' 3 (by decide))
      obtain rfl := hr.f4 (hall' 4 (by decide))
      obtain rfl := hr.f5 (hall' 5 (by decide))
      obtain rfl := hr.f6 (hall' 6 (by decide))
      obtain rfl := hr.f7 (hall' 7 (by decide))
      obtain rfl := hr.f8 (hall' 8 (by decide))
      obtain rfl := hr.f9 (hall' 9 (by decide))
      obtain ⟨N, rfl, hN, _, hrow⟩ := hr.f10 (hall' 10 (by decide))
      have hrow := hrow (hall' 11 (by decide))
      have hgb := hr.gb
      clear hall hall' hr
      simp only [Act.put, List.setIfInBounds_toArray, List.set_cons_zero, List.set_cons_succ]
      have HROW0 : Hid (w'.heap[N]? = some (.cells #[.int .i64 (m : Int), .int .i64 at0, .int .i64 (t.pad + t.grd + z)] 46 (0, 0))) := hrow
      have HNN : Hid (wr.heap.size ≤ N) := hN
      have hgs : wr.heap.size ≤ w'.heap.size := hgb.size
      have HLW0 : Hid (LB < w'.heap.size) := by have h2 := HLB.out; show _ < _; omega
      have HBD0 : Hid (Below w.heap.size w w') := HB.out.trans (hgb.mono HB.out.size)
      have HXD0 : Hid (TBx w' w.heap.size t a) := HX.out.below hgb
      have HOWD0 : Hid (w'.ownsRow LB 46 3 (.slice aa len cap) len (gcat (slX (plM t zs m)) len)) := own_far HOW.out (fun q hq => hgb.block q (own_ge HOW.out q hq).2)
      have HGN : Hid (∀ q, (Value.slice aa len cap).ownBlock = some q → q < N) := fun q hq => by have h := (own_ge HOW.out q hq).2; have := HNN.out; omega
      clear hrow hN hgb hgs HXG HB HX HOW HLB HNN
      go_wp2
      revert HROW0 HLW0 HBD0 HXD0 HOWD0
      generalize w' = WD
      intro HROW HLW HBD HXD HOWD
      refine wp_region_inv (by kernel_rfl) (by kernel_rfl) (fun A ℓ a' w' => ∃ (x30 x31 x32 x33 x34 x35 x5 x6 : Value), a' = ((((((((A.put (some 30) x30).put (some 31) x31).put (some 32) x32).put (some 33) x33).put (some 34) x34).put (some 35) x35).put (some 5) x5).put (some 6) x6) ∧ Rpq WD LB N aa len cap (#[.int .i64 (m : Int), .int .i64 at0, .int .i64 (t.pad + t.grd + z)]) (gcat (slX (plM t zs m)) len) (gcat (slX (plM t zs (m + 1))) (len + 1)) at0 (at0 + (t.pad + t.grd + z)) w'  (ℓ 0) (ℓ 1) (ℓ 2) (ℓ 3) (ℓ 4) (ℓ 5) (ℓ 6) (ℓ 7) x30 x31 x32 x33 x34 x35 x5 x6) ?_ ?_ ?_ ?_
      · exact ⟨u30, u31, u32, u33, u34, u35, .slice aa len cap, .int .i64 at0, (by simp only [Act.put, List.setIfInBounds_toArray, List.set_cons_zero, List.set_cons_succ]), ⟨(fun g => by cases g), (fun g => by cases g), (fun g => by cases g), (fun g => by cases g), (fun g => by cases g), Below.refl _ _ |>.drew, HROW.out, (fun _ => HOWD.out), (fun g => by cases g), (fun g => by cases g), (fun g => by cases g), (fun g => by cases g), (fun g => by cases g), (fun g => by cases g), (fun _ => rfl), (fun g => by cases g), (fun _ => rfl), (fun g => by cases g)⟩⟩
      · intro ℓ a' w' hI hall
        obtain ⟨x30, x31, x32, x33, x34, x35, x5, x6, rfl, hr⟩ := hI
        have hall' : ∀ i, i < 8 → ℓ i = true := hall
        obtain ⟨AN, cap2, rfl, hc2, ho⟩ := hr.f3 (hall' 3 (by decide))
        obtain rfl := hr.f6 (hall' 6 (by decide))
        obtain rfl := hr.f7 (hall' 7 (by decide))
        have HBA : Hid (Below LB WD w') := hr.gb
        have HO9 : Hid (w'.ownsRow LB 46 3 (.slice AN (len + 1) cap2) (len + 1) (gcat (slX (plM t zs (m + 1))) (len + 1))) := ho
        have HC9 : Hid (len + 1 ≤ cap2) := hc2
        clear hr hall hall' hc2 ho
        simp only [Act.put, List.setIfInBounds_toArray, List.set_cons_zero, List.set_cons_succ]
        have HB9 : Hid (Below w.heap.size w w') := HBD.out.trans (HBA.out.mono (by have := HLB0.out; omega))
        have HX9 : Hid (TBx w' w.heap.size t a) := tbx_low HXD.out HBA.out (by have := HLB0.out; omega)
        have HP9 : Hid (LB < w'.heap.size) := by have := HBA.out.size; have := HLW.out; show _ < _; omega
        clear HBA HGN HEND
        go_wp2
        go_roundw
        case rel => exact ⟨m + 1, len + 1, cap2, AN, by omega, rfl, by rw [HPX.out], by first | rfl | go_num, HC9.out, by omega, HLN2.out, HB9.out, HX9.out, HO9.out, HP9.out⟩
        case measure => simp [intOf]; omega
      · intro ℓ a' w' q o hI ho hi hL hdep K hK
        obtain ⟨x30, x31, x32, x33, x34, x35, x5, x6, rfl, hr⟩ := hI
        have hi7 : q < 8 := hi
        have hcs : q = 0 ∨ q = 1 ∨ q = 2 ∨ q = 3 ∨ q = 4 ∨ q = 5 ∨ q = 6 ∨ q = 7 := by omega
        clear hi hi7
        rcases hcs with rfl | rfl | rfl | rfl | rfl | rfl | rfl | rfl
        · revert hK
          obtain rfl := Option.some.inj ho
          clear hdep ho
          have hl3 : ℓ 3 = false := by
            cases h7 : ℓ 3
            · rfl
            · have := (hr.c3 h7).1; rw [this] at hL; cases hL
          have hl6 : ℓ 6 = false := by
            cases h7 : ℓ 6
            · rfl
            · have := (hr.c6 h7).1; rw [this] at hl3; cases hl3
          obtain rfl := hr.g6 hl6
          intro hK
          rw [if_pos (by rfl)]
          try simp only [Act.put, List.setIfInBounds_toArray, List.set_cons_zero, List.set_cons_succ]
          go_simp
          exact hK.out _ _ (fun j => if j = 0 then true else ℓ j) ⟨.slice aa len cap, x31, x32, x33, x34, x35, .slice aa len cap, x6, (by simp only [Act.put, List.setIfInBounds_toArray, List.set_cons_zero, List.set_cons_succ]), ⟨(fun g => absurd (hl3.symm.trans g) Bool.false_ne_true), hr.c2, hr.c5, (fun g => absurd (hl6.symm.trans g) Bool.false_ne_true), hr.c7, hr.gb, hr.rn, hr.ow, (fun _ => rfl), hr.f1, hr.f2, hr.f3, hr.f4, hr.f5, hr.g6, (fun g => absurd (hl6.symm.trans g) Bool.false_ne_true), hr.g7, hr.f7⟩⟩ (if_pos rfl) (fun j hj => if_neg hj)
        · replace ho : some ({ dst := some 31, op := Op.load 46 (Operand.tmp 8), type := 46, pos := "l23_plan.go:31", after := #[], guard := none } : Oper) = some o := ho
          revert hK
          obtain rfl := Option.some.inj ho
          clear hdep ho
          have hl3 : ℓ 3 = false := by
            cases h7 : ℓ 3
            · rfl
            · have := (hr.c3 h7).2.1; rw [this] at hL; cases hL
          intro hK
          rw [if_pos (by rfl)]
          try simp only [Act.put, List.setIfInBounds_toArray, List.set_cons_zero, List.set_cons_succ]
          refine wp_load_row (P := Tryz.prog) 46 (.tmp 8) rfl N rfl 46 #[.int .i64 (m : Int), .int .i64 at0, .int .i64 (t.pad + t.grd + z)] (0, 0) _ hr.rn Tryz.underlying46 rfl (by kernel_rfl) ?_
          exact hK.out _ _ (fun j => if j = 1 then true else ℓ j) ⟨x30, .agg #[.int .i64 (m : Int), .int .i64 at0, .int .i64 (t.pad + t.grd + z)], x32, x33, x34, x35, x5, x6, (by simp only [Act.put, List.setIfInBounds_toArray, List.set_cons_zero, List.set_cons_succ]), ⟨(fun g => absurd (hl3.symm.trans g) Bool.false_ne_true), (fun _ => rfl), hr.c5, hr.c6, hr.c7, hr.gb, hr.rn, hr.ow, hr.f0, (fun _ => rfl), hr.f2, hr.f3, hr.f4, hr.f5, hr.g6, hr.f6, hr.g7, hr.f7⟩⟩ (if_pos rfl) (fun j hj => if_neg hj)
        · replace ho : some ({ dst := some 32, op := Op.buildSlice 31 1 #[(0, Operand.tmp 31)], type := 31, pos := "l23_plan.go:31", after := #[{ on := 1, ground := Ground.data }], guard := none } : Oper) = some o := ho
          revert hK
          obtain rfl := Option.some.inj ho
          have g1 : ℓ 1 = true := hdep { on := 1, ground := Ground.data } (by simp) rfl
          clear hdep ho
          have hl3 : ℓ 3 = false := by
            cases h7 : ℓ 3
            · rfl
            · have := (hr.c3 h7).2.2; rw [this] at hL; cases hL
          obtain rfl := hr.f1 g1
          have hb9 : Below w'.heap.size w' (w'.alloc (.cells #[.int .i64 (m : Int), .int .i64 at0, .int .i64 (t.pad + t.grd + z)] 46)) := (Below.refl _ _).alloc (Nat.le_refl _) _
          have hgs := hr.gb.size
          have hlw := HLW.out
          intro hK
          rw [if_pos (by rfl)]
          try simp only [Act.put, List.setIfInBounds_toArray, List.set_cons_zero, List.set_cons_succ]
          refine wp_buildSlice 31 46 1 #[(0, .tmp 31)] rfl #[.int .i64 (m : Int), .int .i64 at0, .int .i64 (t.pad + t.grd + z)] iS _ Tryz.underlying31 HIS.out.1 HIS.out.2.1 (by rw [HIS.out.2.2.1]; decide) (by rw [HIS.out.2.2.1]; decide) (by rw [HIS.out.2.2.1, Array.toList_map]; exact Great.fill_whole (s := 3) (by decide) [.agg #[.int .i64 (m : Int), .int .i64 at0, .int .i64 (t.pad + t.grd + z)]] _ (fun v hv => by simp only [List.mem_cons, List.not_mem_nil, or_false] at hv; rcases hv with rfl; rfl) (by simp)) ?_
          try simp only [Act.put, List.setIfInBounds_toArray, List.set_cons_zero, List.set_cons_succ]
          exact hK.out _ _ (fun j => if j = 2 then true else ℓ j) ⟨x30, .agg #[.int .i64 (m : Int), .int .i64 at0, .int .i64 (t.pad + t.grd + z)], .slice (some ⟨w'.heap.size, 0, none⟩) 1 1, x33, x34, x35, x5, x6, (by simp only [Act.put, List.setIfInBounds_toArray, List.set_cons_zero, List.set_cons_succ]), ⟨(fun g => absurd (hl3.symm.trans g) Bool.false_ne_true), (fun _ => g1), hr.c5, hr.c6, hr.c7, hr.gb.trans (hb9.mono (by omega)), row_below hr.rn hb9, (fun _ => own_far (hr.ow hl3) (fun q hq => hb9.block q (own_ge (hr.ow hl3) q hq).2)), hr.f0, hr.f1, (fun _ => ⟨w'.heap.size, rfl, fun _ => new_row w' _ _ _ rfl⟩), (fun g => absurd (hl3.symm.trans g) Bool.false_ne_true), hr.f4, hr.f5, hr.g6, hr.f6, hr.g7, hr.f7⟩⟩ (if_pos rfl) (fun j hj => if_neg hj)
        · replace ho : some ({ dst := some 33, op := Op.call { callee := Go.Callee.builtin Go.Builtin.append, args := #[Operand.tmp 30, Operand.tmp 32], argTypes := #[31, 31] }, type := 31, pos := "l23_plan.go:31", after := #[{ on := 0, ground := Ground.data }, { on := 2, ground := Ground.data }], guard := none } : Oper) = some o := ho
          revert hK
          obtain rfl := Option.some.inj ho
          have g0 : ℓ 0 = true := hdep { on := 0, ground := Ground.data } (by simp) rfl
          have g2 : ℓ 2 = true := hdep { on := 2, ground := Ground.data } (by simp) rfl
          clear hdep ho
          have hl6 : ℓ 6 = false := by
            cases h7 : ℓ 6
            · rfl
            · have := (hr.c6 h7).1; rw [this] at hL; cases hL
          obtain rfl := hr.f0 g0
          obtain ⟨M, rfl, hM⟩ := hr.f2 g2
          have hown := hr.ow hL
          have hrm := hM hL
          have hgs := hr.gb.size
          have hlw := HLW.out
          intro hK
          rw [if_pos (by rfl)]
          try simp only [Act.put, List.setIfInBounds_toArray, List.set_cons_zero, List.set_cons_succ]
          refine wp_append_lies w' (.tmp 30) (.tmp 32) 31 rfl LB 46 iS (.agg #[.int .i64 0, .int .i64 0, .int .i64 0]) 3 24 Tryz.underlying31 HIS.out.1 HIS.out.2.1 HIS.out.2.2.1 HIS.out.2.2.2 rfl (by decide) (.slice aa len cap) len (gcat (slX (plM t zs m)) len) rfl hown ⟨M, 0, none⟩ 1 1 [.int .i64 (m : Int), .int .i64 at0, .int .i64 (t.pad + t.grd + z)] rfl rfl (fun j u hj => by rw [add_plain]; exact (row_cells3 hrm) j u hj) (fun u hu => by simp only [List.mem_cons, List.not_mem_nil, or_false] at hu; rcases hu with rfl | rfl | rfl <;> rfl) (by decide) (by have := HLE.out; unfold maxLen; omega) (by have := HLE.out; omega) (by omega) w'.heap.size rfl ?_
          intro g9 c9 w9 ho9 hg9 _ _
          rw [← HGC.out] at ho9
          obtain ⟨AN, cap2, hvv, hc2, _⟩ := own_ls (k := 3) (fun j _ => slX_len _ j) ho9
          rw [hvv] at ho9 ⊢
          have hb9 : Below LB w' w9 := (Below.refl _ _).grown hg9 (by omega) (fun q hq => (own_ge hown q hq).1)
          have hrn9 : w9.heap[N]? = some (.cells #[.int .i64 (m : Int), .int .i64 at0, .int .i64 (t.pad + t.grd + z)] 46 (0, 0)) := (hg9.block N (Array.getElem?_eq_some_iff.1 hr.rn).1 (fun e => by have := HGN.out N e.symm; omega)).trans hr.rn
          exact hK.out _ _ (fun j => if j = 3 then true else ℓ j) ⟨.slice aa len cap, x31, .slice (some ⟨M, 0, none⟩) 1 1, .slice AN (len + 1) cap2, x34, x35, x5, x6, (by simp only [Act.put, List.setIfInBounds_toArray, List.set_cons_zero, List.set_cons_succ]), ⟨(fun _ => ⟨g0, hr.c2 g2, g2⟩), hr.c2, (fun g => ⟨rfl, (hr.c5 g).2⟩), (fun g => ⟨rfl, (hr.c6 g).2⟩), hr.c7, hr.gb.trans hb9, hrn9, (fun g => by cases g), hr.f0, hr.f1, (fun _ => ⟨M, rfl, fun g => by cases g⟩), (fun _ => ⟨AN, cap2, rfl, hc2, ho9⟩), hr.f4, hr.f5, hr.g6, (fun g => absurd (hl6.symm.trans g) Bool.false_ne_true), hr.g7, hr.f7⟩⟩ (if_pos rfl) (fun j hj => if_neg hj)
        · replace ho : some ({ dst := some 34, op := Op.load 46 (Operand.tmp 8), type := 46, pos := "l23_plan.go:31", after := #[], guard := none } : Oper) = some o := ho
          revert hK
          obtain rfl := Option.some.inj ho
          clear hdep ho
          intro hK
          rw [if_pos (by rfl)]
          try simp only [Act.put, List.setIfInBounds_toArray, List.set_cons_zero, List.set_cons_succ]
          refine wp_load_row (P := Tryz.prog) 46 (.tmp 8) rfl N rfl 46 #[.int .i64 (m : Int), .int .i64 at0, .int .i64 (t.pad + t.grd + z)] (0, 0) _ hr.rn Tryz.underlying46 rfl (by kernel_rfl) ?_
          exact hK.out _ _ (fun j => if j = 4 then true else ℓ j) ⟨x30, x31, x32, x33, .agg #[.int .i64 (m : Int), .int .i64 at0, .int .i64 (t.pad + t.grd + z)], x35, x5, x6, (by simp only [Act.put, List.setIfInBounds_toArray, List.set_cons_zero, List.set_cons_succ]), ⟨hr.c3, hr.c2, (fun g => ⟨(hr.c5 g).1, rfl⟩), hr.c6, hr.c7, hr.gb, hr.rn, hr.ow, hr.f0, hr.f1, hr.f2, hr.f3, (fun _ => rfl), hr.f5, hr.g6, hr.f6, hr.g7, hr.f7⟩⟩ (if_pos rfl) (fun j hj => if_neg hj)
        · revert hK
          obtain rfl := Option.some.inj ho
          have g4 : ℓ 4 = true := hdep { on := 4, ground := Ground.data } (by simp) rfl
          have g3 : ℓ 3 = true := hdep { on := 3, ground := Ground.chain } (by simp) rfl
          clear hdep ho
          obtain rfl := hr.f4 g4
          have hgs := hr.gb.size
          have hlw := HLW.out
          intro hK
          rw [if_pos (by rfl)]
          try simp only [Act.put, List.setIfInBounds_toArray, List.set_cons_zero, List.set_cons_succ]
          go_simp
          refine Calls.mono (HEND.out _) ?_
          rintro e w9 ⟨rfl, hb9⟩
          exact hK.out _ _ (fun j => if j = 5 then true else ℓ j) ⟨x30, x31, x32, x33, .agg #[.int .i64 (m : Int), .int .i64 at0, .int .i64 (t.pad + t.grd + z)], .int .i64 (at0 + (t.pad + t.grd + z)), x5, x6, (by simp only [Act.put, List.setIfInBounds_toArray, List.set_cons_zero, List.set_cons_succ]), ⟨hr.c3, hr.c2, (fun _ => ⟨g3, g4⟩), (fun g => ⟨(hr.c6 g).1, rfl⟩), (fun g => ⟨(hr.c7 g).1, rfl⟩), hr.gb.trans (hb9.mono (by omega)), row_below hr.rn hb9, (fun s => absurd (s.symm.trans g3) Bool.false_ne_true), hr.f0, hr.f1, (fun g => (hr.f2 g).imp fun M k => ⟨k.1, fun s => absurd (s.symm.trans g3) Bool.false_ne_true⟩), (fun g => by obtain ⟨A9, c9, e9, h9, ho9⟩ := hr.f3 g; exact ⟨A9, c9, e9, h9, own_far ho9 (fun q hq => hb9.block q (own_ge ho9 q hq).2)⟩), hr.f4, (fun _ => rfl), hr.g6, hr.f6, hr.g7, hr.f7⟩⟩ (if_pos rfl) (fun j hj => if_neg hj)
        · replace ho : some ({ dst := some 5, op := Op.assign (Operand.tmp 33), type := 31, pos := "l23_plan.go:31", after := #[{ on := 3, ground := Ground.data }, { on := 5, ground := Ground.chain }, { on := 0, ground := Ground.phase }, { on := 1, ground := Ground.phase }, { on := 2, ground := Ground.phase }, { on := 3, ground := Ground.phase }, { on := 4, ground := Ground.textOnly Departure.lateStores }, { on := 5, ground := Ground.textOnly Departure.lateStoresUnsure }], guard := none } : Oper) = some o := ho
          revert hK
          obtain rfl := Option.some.inj ho
          have g3 : ℓ 3 = true := hdep { on := 3, ground := Ground.data } (by simp) rfl
          have g5 : ℓ 5 = true := hdep { on := 5, ground := Ground.chain } (by simp) rfl
          clear hdep ho
          obtain ⟨A9, c9, rfl, hc9, ho9⟩ := hr.f3 g3
          intro hK
          rw [if_pos (by rfl)]
          try simp only [Act.put, List.setIfInBounds_toArray, List.set_cons_zero, List.set_cons_succ]
          go_simp
          exact hK.out _ _ (fun j => if j = 6 then true else ℓ j) ⟨x30, x31, x32, .slice A9 (len + 1) c9, x34, x35, .slice A9 (len + 1) c9, x6, (by simp only [Act.put, List.setIfInBounds_toArray, List.set_cons_zero, List.set_cons_succ]), ⟨hr.c3, hr.c2, hr.c5, (fun _ => ⟨g3, g5⟩), (fun g => ⟨rfl, (hr.c7 g).2⟩), hr.gb, hr.rn, hr.ow, hr.f0, hr.f1, hr.f2, hr.f3, hr.f4, hr.f5, (fun g => by cases g), (fun _ => rfl), hr.g7, hr.f7⟩⟩ (if_pos rfl) (fun j hj => if_neg hj)
        · replace ho : some ({ dst := some 6, op := Op.assign (Operand.tmp 35), type := 3, pos := "l23_plan.go:31", after := #[{ on := 5, ground := Ground.data }, { on := 6, ground := Ground.chain }, { on := 0, ground := Ground.phase }, { on := 1, ground := Ground.phase }, { on := 2, ground := Ground.phase }, { on := 3, ground := Ground.phase }, { on := 4, ground := Ground.phase }, { on := 5, ground := Ground.phase }, { on := 6, ground := Ground.phase }], guard := none } : Oper) = some o := ho
          revert hK
          obtain rfl := Option.some.inj ho
          have g5 : ℓ 5 = true := hdep { on := 5, ground := Ground.data } (by simp) rfl
          have g6 : ℓ 6 = true := hdep { on := 6, ground := Ground.chain } (by simp) rfl
          clear hdep ho
          obtain rfl := hr.f5 g5
          intro hK
          rw [if_pos (by rfl)]
          try simp only [Act.put, List.setIfInBounds_toArray, List.set_cons_zero, List.set_cons_succ]
          go_simp
          exact hK.out _ _ (fun j => if j = 7 then true else ℓ j) ⟨x30, x31, x32, x33, x34, .int .i64 (at0 + (t.pad + t.grd + z)), x5, .int .i64 (at0 + (t.pad + t.grd + z)), (by simp only [Act.put, List.setIfInBounds_toArray, List.set_cons_zero, List.set_cons_succ]), ⟨hr.c3, hr.c2, hr.c5, hr.c6, (fun _ => ⟨g6, g5⟩), hr.gb, hr.rn, hr.ow, hr.f0, hr.f1, hr.f2, hr.f3, hr.f4, hr.f5, hr.g6, hr.f6, (fun g => by cases g), (fun _ => rfl)⟩⟩ (if_pos rfl) (fun j hj => if_neg hj)
      · rintro a' w' ℓ ℓ' hℓ hI
        rw [← show ℓ = ℓ' from funext hℓ]
        exact hI
    · intro ℓ a' w' i o hI ho hi hL hdep K hK
      obtain ⟨x20, x21, x22, x23, x24, x25, x26, x27, x28, x29, x8, rfl, hr⟩ := hI
      have hi7 : i < 12 := hi
      have hcs : i = 0 ∨ i = 1 ∨ i = 2 ∨ i = 3 ∨ i = 4 ∨ i = 5 ∨ i = 6 ∨ i = 7 ∨ i = 8 ∨ i = 9 ∨ i = 10 ∨ i = 11 := by omega
      clear hi hi7
      rcases hcs with rfl | rfl | rfl | rfl | rfl | rfl | rfl | rfl | rfl | rfl | rfl | rfl
      · revert hK
        obtain rfl := Option.some.inj ho
        clear hdep ho
        have hgb := hr.gb
        intro hK
        rw [if_pos (by rfl)]
        try simp only [Act.put, List.setIfInBounds_toArray, List.set_cons_zero, List.set_cons_succ]
        go_simp
        exact hK.out _ _ (fun j => if j = 0 then true else ℓ j) ⟨(.int .i64 (m : Int)), x21, x22, x23, x24, x25, x26, x27, x28, x29, x8, (by simp only [Act.put, List.setIfInBounds_toArray, List.set_cons_zero, List.set_cons_succ]), ⟨(fun g => ⟨rfl, (hr.cs g).2.1, (hr.cs g).2.2.1, (hr.cs g).2.2.2.1, (hr.cs g).2.2.2.2.1, (hr.cs g).2.2.2.2.2.1, (hr.cs g).2.2.2.2.2.2.1, (hr.cs g).2.2.2.2.2.2.2.1, (hr.cs g).2.2.2.2.2.2.2.2.1, (hr.cs g).2.2.2.2.2.2.2.2.2.1, (hr.cs g).2.2.2.2.2.2.2.2.2.2.1, trivial⟩), hr.gb, (fun _ => rfl), hr.f1, hr.f2, hr.f3, hr.f4, hr.f5, hr.f6, hr.f7, hr.f8, hr.f9, hr.f10⟩⟩ (if_pos rfl) (fun j hj => if_neg hj)
      · revert hK
        obtain rfl := Option.some.inj ho
        clear hdep ho
        have hgb := hr.gb
        intro hK
        rw [if_pos (by rfl)]
        try simp only [Act.put, List.setIfInBounds_toArray, List.set_cons_zero, List.set_cons_succ]
        go_simp
        exact hK.out _ _ (fun j => if j = 1 then true else ℓ j) ⟨x20, (.int .i64 at0), x22, x23, x24, x25, x26, x27, x28, x29, x8, (by simp only [Act.put, List.setIfInBounds_toArray, List.set_cons_zero, List.set_cons_succ]), ⟨(fun g => ⟨(hr.cs g).1, rfl, (hr.cs g).2.2.1, (hr.cs g).2.2.2.1, (hr.cs g).2.2.2.2.1, (hr.cs g).2.2.2.2.2.1, (hr.cs g).2.2.2.2.2.2.1, (hr.cs g).2.2.2.2.2.2.2.1, (hr.cs g).2.2.2.2.2.2.2.2.1, (hr.cs g).2.2.2.2.2.2.2.2.2.1, (hr.cs g).2.2.2.2.2.2.2.2.2.2.1, trivial⟩), hr.gb, hr.f0, (fun _ => rfl), hr.f2, hr.f3, hr.f4, hr.f5, hr.f6, hr.f7, hr.f8, hr.f9, hr.f10⟩⟩ (if_pos rfl) (fun j hj => if_neg hj)
      · replace ho : some ({ dst := some 22, op := .load 33 (.tmp 2), type := 33, pos := "l23_plan.go:30", after := #[], guard := none } : Oper) = some o := ho
        revert hK
        obtain rfl := Option.some.inj ho
        clear hdep ho
        have hl : ℓ 11 = false := by
          cases h7 : ℓ 11
          · rfl
          · have := (hr.cs h7).2.2.1; rw [this] at hL; cases hL
        have hgb := hr.gb
        intro hK
        rw [if_pos (by rfl)]
        try simp only [Act.put, List.setIfInBounds_toArray, List.set_cons_zero, List.set_cons_succ]
        refine wp_load_row (P := Tryz.prog) 33 (.tmp 2) rfl w.heap.size rfl 33 (tbA t a) (0, 0) _ (HXG.out _ hgb) Tryz.underlying33 rfl (by kernel_rfl) ?_
        exact hK.out _ _ (fun j => if j = 2 then true else ℓ j) ⟨x20, x21, (tbV t a), x23, x24, x25, x26, x27, x28, x29, x8, (by simp only [Act.put, List.setIfInBounds_toArray, List.set_cons_zero, List.set_cons_succ]), ⟨(fun g => ⟨(hr.cs g).1, (hr.cs g).2.1, rfl, (hr.cs g).2.2.2.1, (hr.cs g).2.2.2.2.1, (hr.cs g).2.2.2.2.2.1, (hr.cs g).2.2.2.2.2.2.1, (hr.cs g).2.2.2.2.2.2.2.1, (hr.cs g).2.2.2.2.2.2.2.2.1, (hr.cs g).2.2.2.2.2.2.2.2.2.1, (hr.cs g).2.2.2.2.2.2.2.2.2.2.1, trivial⟩), hr.gb, hr.f0, hr.f1, (fun _ => rfl), hr.f3, hr.f4, hr.f5, hr.f6, hr.f7, hr.f8, hr.f9, hr.f10⟩⟩ (if_pos rfl) (fun j hj => if_neg hj)
      · revert hK
        obtain rfl := Option.some.inj ho
        have g2 : ℓ 2 = true := hdep { on := 2, ground := Ground.data } (by simp) rfl
        clear hdep ho
        have hl : ℓ 11 = false := by
          cases h7 : ℓ 11
          · rfl
          · have := (hr.cs h7).2.2.2.1; rw [this] at hL; cases hL
        have hgb := hr.gb
        obtain rfl := hr.f2 g2
        intro hK
        rw [if_pos (by rfl)]
        try simp only [Act.put, List.setIfInBounds_toArray, List.set_cons_zero, List.set_cons_succ]
        go_simp
        refine Calls.mono (HLO.out _) ?_
        rintro e w9 ⟨rfl, hb9⟩
        have hr9 := hr.below hb9
        exact hK.out _ _ (fun j => if j = 3 then true else ℓ j) ⟨x20, x21, (tbV t a), (.int .i64 (t.pad + t.grd)), x24, x25, x26, x27, x28, x29, x8, (by simp only [Act.put, List.setIfInBounds_toArray, List.set_cons_zero, List.set_cons_succ]), ⟨(fun g => ⟨(hr9.cs g).1, (hr9.cs g).2.1, (hr9.cs g).2.2.1, rfl, (hr9.cs g).2.2.2.2.1, (hr9.cs g).2.2.2.2.2.1, (hr9.cs g).2.2.2.2.2.2.1, (hr9.cs g).2.2.2.2.2.2.2.1, (hr9.cs g).2.2.2.2.2.2.2.2.1, (hr9.cs g).2.2.2.2.2.2.2.2.2.1, (hr9.cs g).2.2.2.2.2.2.2.2.2.2.1, trivial⟩), hr9.gb, hr9.f0, hr9.f1, hr9.f2, (fun _ => rfl), hr9.f4, hr9.f5, hr9.f6, hr9.f7, hr9.f8, hr9.f9, hr9.f10⟩⟩ (if_pos rfl) (fun j hj => if_neg hj)
      · revert hK
        obtain rfl := Option.some.inj ho
        clear hdep ho
        have hgb := hr.gb
        intro hK
        rw [if_pos (by rfl)]
        try simp only [Act.put, List.setIfInBounds_toArray, List.set_cons_zero, List.set_cons_succ]
        go_simp
        exact hK.out _ _ (fun j => if j = 4 then true else ℓ j) ⟨x20, x21, x22, x23, (.slice (some ⟨b1, o1, none⟩) n nc), x25, x26, x27, x28, x29, x8, (by simp only [Act.put, List.setIfInBounds_toArray, List.set_cons_zero, List.set_cons_succ]), ⟨(fun g => ⟨(hr.cs g).1, (hr.cs g).2.1, (hr.cs g).2.2.1, (hr.cs g).2.2.2.1, rfl, (hr.cs g).2.2.2.2.2.1, (hr.cs g).2.2.2.2.2.2.1, (hr.cs g).2.2.2.2.2.2.2.1, (hr.cs g).2.2.2.2.2.2.2.2.1, (hr.cs g).2.2.2.2.2.2.2.2.2.1, (hr.cs g).2.2.2.2.2.2.2.2.2.2.1, trivial⟩), hr.gb, hr.f0, hr.f1, hr.f2, hr.f3, (fun _ => rfl), hr.f5, hr.f6, hr.f7, hr.f8, hr.f9, hr.f10⟩⟩ (if_pos rfl) (fun j hj => if_neg hj)
      · revert hK
        obtain rfl := Option.some.inj ho
        clear hdep ho
        have hgb := hr.gb
        intro hK
        rw [if_pos (by rfl)]
        try simp only [Act.put, List.setIfInBounds_toArray, List.set_cons_zero, List.set_cons_succ]
        go_simp
        exact hK.out _ _ (fun j => if j = 5 then true else ℓ j) ⟨x20, x21, x22, x23, x24, (.int .i64 (m : Int)), x26, x27, x28, x29, x8, (by simp only [Act.put, List.setIfInBounds_toArray, List.set_cons_zero, List.set_cons_succ]), ⟨(fun g => ⟨(hr.cs g).1, (hr.cs g).2.1, (hr.cs g).2.2.1, (hr.cs g).2.2.2.1, (hr.cs g).2.2.2.2.1, rfl, (hr.cs g).2.2.2.2.2.2.1, (hr.cs g).2.2.2.2.2.2.2.1, (hr.cs g).2.2.2.2.2.2.2.2.1, (hr.cs g).2.2.2.2.2.2.2.2.2.1, (hr.cs g).2.2.2.2.2.2.2.2.2.2.1, trivial⟩), hr.gb, hr.f0, hr.f1, hr.f2, hr.f3, hr.f4, (fun _ => rfl), hr.f6, hr.f7, hr.f8, hr.f9, hr.f10⟩⟩ (if_pos rfl) (fun j hj => if_neg hj)
      · revert hK
        obtain rfl := Option.some.inj ho
        have g4 : ℓ 4 = true := hdep { on := 4, ground := Ground.data } (by simp) rfl
        have g5 : ℓ 5 = true := hdep { on := 5, ground := Ground.data } (by simp) rfl
        clear hdep ho
        have hgb := hr.gb
        obtain rfl := hr.f4 g4
        obtain rfl := hr.f5 g5
        intro hK
        rw [if_pos (by rfl)]
        try simp only [Act.put, List.setIfInBounds_toArray, List.set_cons_zero, List.set_cons_succ]
        have hmn := HMN.out
        go_simp
        exact hK.out _ _ (fun j => if j = 6 then true else ℓ j) ⟨x20, x21, x22, x23, (.slice (some ⟨b1, o1, none⟩) n nc), (.int .i64 (m : Int)), (.pointer (some ⟨b1, o1 + m, none⟩)), x27, x28, x29, x8, (by simp only [Act.put, List.setIfInBounds_toArray, List.set_cons_zero, List.set_cons_succ]), ⟨(fun g => ⟨(hr.cs g).1, (hr.cs g).2.1, (hr.cs g).2.2.1, (hr.cs g).2.2.2.1, (hr.cs g).2.2.2.2.1, (hr.cs g).2.2.2.2.2.1, rfl, (hr.cs g).2.2.2.2.2.2.2.1, (hr.cs g).2.2.2.2.2.2.2.2.1, (hr.cs g).2.2.2.2.2.2.2.2.2.1, (hr.cs g).2.2.2.2.2.2.2.2.2.2.1, trivial⟩), hr.gb, hr.f0, hr.f1, hr.f2, hr.f3, hr.f4, hr.f5, (fun _ => rfl), hr.f7, hr.f8, hr.f9, hr.f10⟩⟩ (if_pos rfl) (fun j hj => if_neg hj)
      · revert hK
        obtain rfl := Option.some.inj ho
        have g6 : ℓ 6 = true := hdep { on := 6, ground := Ground.data } (by simp) rfl
        clear hdep ho
        have hl : ℓ 11 = false := by
          cases h7 : ℓ 11
          · rfl
          · have := (hr.cs h7).2.2.2.2.2.2.2.1; rw [this] at hL; cases hL
        have hgb := hr.gb
        obtain rfl := hr.f6 g6
        intro hK
        rw [if_pos (by rfl)]
        try simp only [Act.put, List.setIfInBounds_toArray, List.set_cons_zero, List.set_cons_succ]
        have cc := HQC.out _ hgb
        go_simp
        exact hK.out _ _ (fun j => if j = 7 then true else ℓ j) ⟨x20, x21, x22, x23, x24, x25, (.pointer (some ⟨b1, o1 + m, none⟩)), (.int .i64 z), x28, x29, x8, (by simp only [Act.put, List.setIfInBounds_toArray, List.set_cons_zero, List.set_cons_succ]), ⟨(fun g => ⟨(hr.cs g).1, (hr.cs g).2.1, (hr.cs g).2.2.1, (hr.cs g).2.2.2.1, (hr.cs g).2.2.2.2.1, (hr.cs g).2.2.2.2.2.1, (hr.cs g).2.2.2.2.2.2.1, rfl, (hr.cs g).2.2.2.2.2.2.2.2.1, (hr.cs g).2.2.2.2.2.2.2.2.2.1, (hr.cs g).2.2.2.2.2.2.2.2.2.2.1, trivial⟩), hr.gb, hr.f0, hr.f1, hr.f2, hr.f3, hr.f4, hr.f5, hr.f6, (fun _ => rfl), hr.f8, hr.f9, hr.f10⟩⟩ (if_pos rfl) (fun j hj => if_neg hj)
      · revert hK
        obtain rfl := Option.some.inj ho
        have g3 : ℓ 3 = true := hdep { on := 3, ground := Ground.data } (by simp) rfl
        have g7 : ℓ 7 = true := hdep { on := 7, ground := Ground.data } (by simp) rfl
        clear hdep ho
        have hgb := hr.gb
        obtain rfl := hr.f3 g3
        obtain rfl := hr.f7 g7
        intro hK
        rw [if_pos (by rfl)]
        try simp only [Act.put, List.setIfInBounds_toArray, List.set_cons_zero, List.set_cons_succ]
        have hwr := HWR.out.2.1
        go_simp
        exact hK.out _ _ (fun j => if j = 8 then true else ℓ j) ⟨x20, x21, x22, (.int .i64 (t.pad + t.grd)), x24, x25, x26, (.int .i64 z), (.int .i64 (t.pad + t.grd + z)), x29, x8, (by simp only [Act.put, List.setIfInBounds_toArray, List.set_cons_zero, List.set_cons_succ]), ⟨(fun g => ⟨(hr.cs g).1, (hr.cs g).2.1, (hr.cs g).2.2.1, (hr.cs g).2.2.2.1, (hr.cs g).2.2.2.2.1, (hr.cs g).2.2.2.2.2.1, (hr.cs g).2.2.2.2.2.2.1, (hr.cs g).2.2.2.2.2.2.2.1, rfl, (hr.cs g).2.2.2.2.2.2.2.2.2.1, (hr.cs g).2.2.2.2.2.2.2.2.2.2.1, trivial⟩), hr.gb, hr.f0, hr.f1, hr.f2, hr.f3, hr.f4, hr.f5, hr.f6, hr.f7, (fun _ => rfl), hr.f9, hr.f10⟩⟩ (if_pos rfl) (fun j hj => if_neg hj)
      · revert hK
        obtain rfl := Option.some.inj ho
        have g0 : ℓ 0 = true := hdep { on := 0, ground := Ground.data } (by simp) rfl
        have g1 : ℓ 1 = true := hdep { on := 1, ground := Ground.data } (by simp) rfl
        have g8 : ℓ 8 = true := hdep { on := 8, ground := Ground.data } (by simp) rfl
        clear hdep ho
        have hgb := hr.gb
        obtain rfl := hr.f0 g0
        obtain rfl := hr.f1 g1
        obtain rfl := hr.f8 g8
        intro hK
        rw [if_pos (by rfl)]
        try simp only [Act.put, List.setIfInBounds_toArray, List.set_cons_zero, List.set_cons_succ]
        go_simp
        exact hK.out _ _ (fun j => if j = 9 then true else ℓ j) ⟨(.int .i64 (m : Int)), (.int .i64 at0), x22, x23, x24, x25, x26, x27, (.int .i64 (t.pad + t.grd + z)), (.agg #[.int .i64 (m : Int), .int .i64 at0, .int .i64 (t.pad + t.grd + z)]), x8, (by simp only [Act.put, List.setIfInBounds_toArray, List.set_cons_zero, List.set_cons_succ]), ⟨(fun g => ⟨(hr.cs g).1, (hr.cs g).2.1, (hr.cs g).2.2.1, (hr.cs g).2.2.2.1, (hr.cs g).2.2.2.2.1, (hr.cs g).2.2.2.2.2.1, (hr.cs g).2.2.2.2.2.2.1, (hr.cs g).2.2.2.2.2.2.2.1, (hr.cs g).2.2.2.2.2.2.2.2.1, rfl, (hr.cs g).2.2.2.2.2.2.2.2.2.2.1, trivial⟩), hr.gb, hr.f0, hr.f1, hr.f2, hr.f3, hr.f4, hr.f5, hr.f6, hr.f7, hr.f8, (fun _ => rfl), hr.f10⟩⟩ (if_pos rfl) (fun j hj => if_neg hj)
      · revert hK
        obtain rfl := Option.some.inj ho
        clear hdep ho
        have hl : ℓ 11 = false := by
          cases h7 : ℓ 11
          · rfl
          · have := (hr.cs h7).2.2.2.2.2.2.2.2.2.2.1; rw [this] at hL; cases hL
        have hgb := hr.gb
        intro hK
        rw [if_pos (by rfl)]
        try simp only [Act.put, List.setIfInBounds_toArray, List.set_cons_zero, List.set_cons_succ]
        have hr9 := hr.below (w9 := w'.alloc (.cells (#[.int .i64 0, .int .i64 0, .int .i64 0]) 46)) ((Below.refl _ _).alloc (Nat.le_refl _) _)
        go_simp
        exact hK.out _ _ (fun j => if j = 10 then true else ℓ j) ⟨x20, x21, x22, x23, x24, x25, x26, x27, x28, x29, (.pointer (some ⟨w'.heap.size, 0, none⟩)), (by simp only [Act.put, List.setIfInBounds_toArray, List.set_cons_zero, List.set_cons_succ]), ⟨(fun g => ⟨(hr9.cs g).1, (hr9.cs g).2.1, (hr9.cs g).2.2.1, (hr9.cs g).2.2.2.1, (hr9.cs g).2.2.2.2.1, (hr9.cs g).2.2.2.2.2.1, (hr9.cs g).2.2.2.2.2.2.1, (hr9.cs g).2.2.2.2.2.2.2.1, (hr9.cs g).2.2.2.2.2.2.2.2.1, (hr9.cs g).2.2.2.2.2.2.2.2.2.1, rfl, trivial⟩), hr9.gb, hr9.f0, hr9.f1, hr9.f2, hr9.f3, hr9.f4, hr9.f5, hr9.f6, hr9.f7, hr9.f8, hr9.f9, (fun _ => ⟨w'.heap.size, rfl, hgb.size, (fun _ => new_row w' _ _ _ rfl), (fun g => by have g' : ℓ 11 = true := g; rw [hl] at g'; cases g')⟩)⟩⟩ (if_pos rfl) (fun j hj => if_neg hj)
      · replace ho : some ({ dst := none, op := .store 46 (.tmp 8) (.tmp 29), type := 0, pos := "l23_plan.go:30", after := #[{ on := 10, ground := Ground.data }, { on := 9, ground := Ground.data }, { on := 3, ground := Ground.chain }, { on := 0, ground := Ground.phase }, { on := 1, ground := Ground.phase }, { on := 2, ground := Ground.phase }, { on := 3, ground := Ground.phase }, { on := 4, ground := Ground.phase }, { on := 5, ground := Ground.phase }, { on := 6, ground := Ground.phase }, { on := 7, ground := Ground.phase }, { on := 8, ground := Ground.phase }, { on := 9, ground := Ground.phase }, { on := 10, ground := Ground.phase }], guard := none } : Oper) = some o := ho
        revert hK
        obtain rfl := Option.some.inj ho
        have g10 : ℓ 10 = true := hdep { on := 10, ground := Ground.data } (by simp) rfl
        have g9 : ℓ 9 = true := hdep { on := 9, ground := Ground.data } (by simp) rfl
        have g0 : ℓ 0 = true := hdep { on := 0, ground := Ground.phase } (by simp) rfl
        have g1 : ℓ 1 = true := hdep { on := 1, ground := Ground.phase } (by simp) rfl
        have g2 : ℓ 2 = true := hdep { on := 2, ground := Ground.phase } (by simp) rfl
        have g3 : ℓ 3 = true := hdep { on := 3, ground := Ground.phase } (by simp) rfl
        have g4 : ℓ 4 = true := hdep { on := 4, ground := Ground.phase } (by simp) rfl
        have g5 : ℓ 5 = true := hdep { on := 5, ground := Ground.phase } (by simp) rfl
        have g6 : ℓ 6 = true := hdep { on := 6, ground := Ground.phase } (by simp) rfl
        have g7 : ℓ 7 = true := hdep { on := 7, ground := Ground.phase } (by simp) rfl
        have g8 : ℓ 8 = true := hdep { on := 8, ground := Ground.phase } (by simp) rfl
        clear hdep ho
        have hgb := hr.gb
        obtain ⟨N, rfl, hN, hrow, _⟩ := hr.f10 g10
        obtain rfl := hr.f9 g9
        intro hK
        rw [if_pos (by rfl)]
        try simp only [Act.put, List.setIfInBounds_toArray, List.set_cons_zero, List.set_cons_succ]
        refine wp_store_row (P := Tryz.prog) 46 (.tmp 8) (.tmp 29) rfl N (#[.int .i64 (m : Int), .int .i64 at0, .int .i64 (t.pad + t.grd + z)]) rfl rfl 46 (#[.int .i64 0, .int .i64 0, .int .i64 0]) (hrow hL) (by kernel_rfl) rfl (by simp [Value.oneCell']) ?_
        exact hK.out _ _ (fun j => if j = 11 then true else ℓ j) ⟨x20, x21, x22, x23, x24, x25, x26, x27, x28, (.agg #[.int .i64 (m : Int), .int .i64 at0, .int .i64 (t.pad + t.grd + z)]), (.pointer (some ⟨N, 0, none⟩)), (by simp only [Act.put, List.setIfInBounds_toArray, List.set_cons_zero, List.set_cons_succ]), ⟨(fun _ => ⟨g0, g1, g2, g3, g4, g5, g6, g7, g8, g9, g10, trivial⟩), below_setRow hr.gb hN _, hr.f0, hr.f1, hr.f2, hr.f3, hr.f4, hr.f5, hr.f6, hr.f7, hr.f8, hr.f9, (fun _ => ⟨N, rfl, hN, (fun g => by cases g), fun _ => setRow_heap _ _ _ _ _ _ (hrow hL)⟩)⟩⟩ (if_pos rfl) (fun j hj => if_neg hj)
    · rintro a' w' ℓ ℓ' hℓ hI
      rw [← show ℓ = ℓ' from funext hℓ]
      exact hI
end Go.Proofs.YtmgopppgckgglaaGreatDoor
