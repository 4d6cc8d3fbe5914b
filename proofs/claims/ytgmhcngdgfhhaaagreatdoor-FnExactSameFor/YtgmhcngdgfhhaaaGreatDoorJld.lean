
/-
  How many ways lead over one channel from a partition to another: the program's map. Conditions: the channels lie in memory; there are at most 8.
-/
import Derived.Test.YtgmhcngdgfhhaaaGreatDoorBas
import Derived.Test.YtgmhcngdgfhhaaaGreatDoorJmp
import Derived.Test.YtgmhcngdgfhhaaaGreatDoorClo6
import Derived.Test.YtgmhcngdgfhhaaaGreatDoorGen
import Derived.Test.YtgmhcngdgfhhaaaGreatDoorLsw
namespace Go.Proofs.YtgmhcngdgfhhaaaGreatDoor
open Go.ChangeShapes Go.WideShapes Go.ChangeAt Go.RowKit Go.Deep Go.Joins
open Go.ChangeMaps (setBlock heap_setBlock_same heap_setBlock_other)
set_option linter.unusedVariables false

theorem setBlock_below {w : World} {B lo : Nat} {es es' : Array MapEntry} {c c' : Nat} (h : w.heap[B]? = some (.map es c)) (hB : lo ≤ B) (hl : lo ≤ w.heap.size) : Below lo w (setBlock w B (.map es' c')) := by
  refine ⟨rfl, rfl, rfl, by simp [setBlock], fun i hi => heap_setBlock_other h _ (by omega)⟩
theorem MW.blk {w : World} {B n : Nat} {f : Int → Int → Int} (h : MW w B n f) : ∃ es c, w.heap[B]? = some (.map es c) := by
  obtain ⟨D, ⟨es, c, h1, _⟩, _⟩ := h
  exact ⟨es, c, h1⟩
theorem row_cell {X : World} {B : Nat} {cs : Array Value} {ty : TypeId} (h : X.heap[B]? = some (.cells cs ty (0, 0))) (i : Nat) (v : Value) (hv : cs[i]? = some v) : X.cell? ⟨B, i, none⟩ = some v := by
  simp [World.cell?, h, hv]
theorem wfi {a : Int} (h : 0 ≤ a ∧ a ≤ 1000000) : (Lit.int .i64 a).wf = true := WalkArith.wf_i64 (by omega)
/-- Operations that have come up, their values, and which of three worlds it is. -/
structure MR (W0 W1 W2 : World) (B N o1 o2 st : Nat) (q r c : Int) (v0 : Value) (w' : World) (b0 b1 b2 b3 b4 b5 b6 b7 b8 b9 b10 : Bool) (x0 x1 x2 x3 x4 x5 x6 x7 x8 x9 : Value) : Prop where
  ww : (b10 = true ∧ b8 = true ∧ w' = W2) ∨ (b10 = false ∧ b8 = true ∧ w' = W1) ∨ (b10 = false ∧ b8 = false ∧ w' = W0)
  cl : b10 = true → b6 = true
  f0 : b0 = true → x0 = .map (some B)
  f1 : b1 = true → x1 = .pointer (some ⟨N, o1, none⟩)
  f2 : b2 = true → x2 = .int .i64 q
  f3 : b3 = true → x3 = .pointer (some ⟨N, o2, none⟩)
  f4 : b4 = true → x4 = .int .i64 r
  f5 : b5 = true → x5 = .agg #[.int .i64 q, .int .i64 r]
  f6 : b6 = true → x6 = .int .i64 c
  f7 : b7 = true → x7 = .int .i64 (c + 1)
  f8 : b8 = true → x8 = .tuple #[v0, .int .i64 (st : Int)]
  f9 : b9 = true → x9 = .int .i64 (st : Int)
theorem lead_next {cs : List chT} {k : Nat} {x1 x2 x3 x4 : Int} (h : cs.getD k ch0 = (x1, x2, x3, x4)) (q r : Int) : (leadN cs (k + 1) q r : Int) = (leadN cs k q r : Int) + (if x2 = q ∧ x3 = r then 1 else 0) + (if x1 = 1 ∧ x3 = q ∧ x2 = r then 1 else 0) := by
  rw [leadN, h]
  split <;> split <;> simp
theorem lead_one {cs : List chT} {k : Nat} {x1 x2 x3 x4 : Int} (h : cs.getD k ch0 = (x1, x2, x3, x4)) (h1 : x1 ≠ 1) (q r : Int) : (if q = x2 ∧ r = x3 then (leadN cs k x2 x3 : Int) + 1 else (leadN cs k q r : Int)) = (leadN cs (k + 1) q r : Int) := by
  rw [lead_next h, if_neg (fun g : x1 = 1 ∧ x3 = q ∧ x2 = r => h1 g.1)]
  by_cases g : q = x2 ∧ r = x3
  · obtain ⟨rfl, rfl⟩ := g
    rw [if_pos ⟨rfl, rfl⟩, if_pos ⟨rfl, rfl⟩]; omega
  · rw [if_neg g, if_neg (fun e => g ⟨e.1.symm, e.2.symm⟩)]; omega
theorem lead_two {cs : List chT} {k : Nat} {x1 x2 x3 x4 : Int} (h : cs.getD k ch0 = (x1, x2, x3, x4)) (h1 : x1 = 1) (f1 : Int → Int → Int) (hf : ∀ q r, f1 q r = if q = x2 ∧ r = x3 then (leadN cs k x2 x3 : Int) + 1 else (leadN cs k q r : Int)) (q r : Int) :
    (if q = x3 ∧ r = x2 then f1 x3 x2 + 1 else f1 q r) = (leadN cs (k + 1) q r : Int) := by
  have key : ∀ q r, f1 q r = (leadN cs k q r : Int) + (if x2 = q ∧ x3 = r then 1 else 0) := fun q r => by
    rw [hf q r]
    by_cases g : q = x2 ∧ r = x3
    · obtain ⟨rfl, rfl⟩ := g
      rw [if_pos ⟨rfl, rfl⟩, if_pos ⟨rfl, rfl⟩]
    · rw [if_neg g, if_neg (fun e => g ⟨e.1.symm, e.2.symm⟩)]; omega
  rw [lead_next h]
  by_cases g : q = x3 ∧ r = x2
  · obtain ⟨rfl, rfl⟩ := g
    rw [if_pos ⟨rfl, rfl⟩, key, if_pos (⟨h1, rfl, rfl⟩ : x1 = 1 ∧ q = q ∧ r = r)]
  · rw [if_neg g, key, if_neg (fun e : x1 = 1 ∧ x3 = q ∧ x2 = r => g ⟨e.2.1.symm, e.2.2.symm⟩)]; omega
set_option maxRecDepth 20000 in
set_option maxHeartbeats 4000000 in
theorem impl_leads (t : Tb) (a : Ad) (w : World) (hc : GSeg 4 w a.ca a.cn (chX t.cs)) (hn : a.cn ≤ 8) (hwi : ∀ i, i < a.cn → (0 ≤ (t.cs.getD i ch0).2.1 ∧ (t.cs.getD i ch0).2.1 ≤ 1000000) ∧ (0 ≤ (t.cs.getD i ch0).2.2.1 ∧ (t.cs.getD i ch0).2.2.1 ≤ 1000000)) :
    Calls Tryz.prog 60 #[tbV t a] w fun e w' => e = .returned (.map (some (w.heap.size + 1))) ∧ Below w.heap.size w w' ∧ MW w' (w.heap.size + 1) 16 (fun x y => (leadN t.cs a.cn x y : Int)) := by
  have HC : Hid (GSeg 4 w a.ca a.cn (chX t.cs)) := hc
  have HWI : Hid (∀ i, i < a.cn → (0 ≤ (t.cs.getD i ch0).2.1 ∧ (t.cs.getD i ch0).2.1 ≤ 1000000) ∧ (0 ≤ (t.cs.getD i ch0).2.2.1 ∧ (t.cs.getD i ch0).2.2.1 ≤ 1000000)) := hwi
  clear hc hwi
  have hmm := @run_makeMap Tryz.prog
  have HX0 : Hid (TBx (w.alloc (.cells (tbA t a) 44)) w.heap.size t a) := TBx.new w t a _ rfl
  have HX1 : Hid (TBx ((w.alloc (.cells (tbA t a) 44)).alloc (.map #[] 0)) w.heap.size t a) := HX0.out.below ((Below.refl _ _).alloc (Nat.le_refl _) _)
  have k17 : ((w.alloc (.cells (tbA t a) 44)).alloc (.map #[] 0)).cell? ⟨w.heap.size, 17, none⟩ = some (.slice a.ca a.cn a.cc) := HX1.out.cell 17 rfl
  obtain ⟨B, hB⟩ : ∃ B, B = w.heap.size + 1 := ⟨_, rfl⟩
  have HM0 : Hid (MW ((w.alloc (.cells (tbA t a) 44)).alloc (.map #[] 0)) B 0 (fun _ _ => 0)) := by
    have := MW.made (w.alloc (.cells (tbA t a) 44))
    rw [show (w.alloc (.cells (tbA t a) 44)).heap.size = w.heap.size + 1 by simp] at this
    rw [hB]; exact this
  have HB0 : Hid (Below w.heap.size w ((w.alloc (.cells (tbA t a) 44)).alloc (.map #[] 0))) := ((Below.refl _ _).alloc (Nat.le_refl _) _).alloc (by simp) _
  obtain ⟨n, hnn⟩ : ∃ n, n = a.cn := ⟨_, rfl⟩
  go_enter Tryz.func60, Tryz.ntmps60
  go_wp2
  go_loopw [10] (fun i wr => ∃ k : Nat, k ≤ n ∧ i = .int .i64 k ∧ Hid (Below w.heap.size w wr) ∧ Hid (MW wr B (2 * k) (fun x y => (leadN t.cs k x y : Int)))) (fun i _ => n - (intOf i).toNat)
  case atStart => exact ⟨0, by omega, rfl, HB0.out, HM0.out⟩
  case round =>
    clear HX0 HX1 k17 HM0 HB0
    obtain ⟨k, hk, rfl, HBW, HMW⟩ := hrel
    by_cases hkn : k < n
    rotate_left
    · obtain rfl : k = n := by omega
      go_wp2
      go_ret
      exact ⟨by first | rfl | (simp; omega), HBW.out, by rw [← hB, ← hnn]; exact HMW.out.mono (by omega)⟩
    have hkn' : (k : Int) < (a.cn : Int) := by omega
    obtain ⟨b1, o1, hca, hbl1, p1⟩ := HC.out.at k (by omega)
    replace p1 := p1.of (w' := wr) (fun j => HBW.out.cell (p := ⟨b1, j, none⟩) hbl1)
    have hwk := HWI.out k (by omega)
    simp only [chX] at p1
    generalize hxx : t.cs.getD k ch0 = x at p1 hwk
    have HXX : Hid (t.cs.getD k ch0 = x) := hxx
    clear hxx
    obtain ⟨c0, c1, c2, c3⟩ := ch_cells p1
    obtain ⟨x1, x2, x3, x4⟩ := x
    simp only at c0 c1 c2 c3 hwk
    rw [hca]
    clear p1 hbl1
    have HRa0 : Hid ((wr.alloc (.cells #[.int .i64 x1, .int .i64 x2, .int .i64 x3, .int .i64 x4] 97)).heap[wr.heap.size]? = some (.cells #[.int .i64 x1, .int .i64 x2, .int .i64 x3, .int .i64 x4] 97 (0, 0))) := new_row wr _ _ _ rfl
    have HBa0 : Hid (Below w.heap.size w (wr.alloc (.cells #[.int .i64 x1, .int .i64 x2, .int .i64 x3, .int .i64 x4] 97))) := HBW.out.alloc HBW.out.size _
    have HMa0 : Hid (MW (wr.alloc (.cells #[.int .i64 x1, .int .i64 x2, .int .i64 x3, .int .i64 x4] 97)) (w.heap.size + 1) (2 * k) (fun x y => (leadN t.cs k x y : Int))) := by rw [← hB]; exact HMW.out.below ((Below.refl _ _).alloc (Nat.le_refl _) _)
    have hNB0 : w.heap.size + 1 < wr.heap.size := by rw [← hB]; exact HMW.out.lt
    go_wp2
    revert HRa0 HBa0 HMa0 hNB0
    generalize wr.alloc (.cells #[.int .i64 x1, .int .i64 x2, .int .i64 x3, .int .i64 x4] 97) = wa
    generalize wr.heap.size = N
    intro HRa HBa HMa hNB
    clear HBW HMW c0 c1 c2 c3
    obtain ⟨ca, HCa⟩ : ∃ c : Int, Hid ((fun x y => (leadN t.cs k x y : Int)) x2 x3 = c) := ⟨_, rfl⟩
    have hca : 0 ≤ ca ∧ ca ≤ 100 := by rw [← HCa.out]; exact (by have := lead_le t.cs k x2 x3; show 0 ≤ (leadN t.cs k x2 x3 : Int) ∧ (leadN t.cs k x2 x3 : Int) ≤ 100; omega)
    have hwra : IntKind.i64.wrap (ca + 1) = ca + 1 := by rw [IntKind.wrap_i64]; omega
    obtain ⟨W0a, HW0a⟩ : ∃ W, Hid (wa.drew = W) := ⟨_, rfl⟩
    have HMDa : Hid (MW W0a (w.heap.size + 1) (2 * k) (fun x y => (leadN t.cs k x y : Int))) := by rw [← HW0a.out]; exact HMa.out.of rfl
    have HRDa : Hid (W0a.heap[N]? = some (.cells #[.int .i64 x1, .int .i64 x2, .int .i64 x3, .int .i64 x4] 97 (0, 0))) := by rw [← HW0a.out]; exact HRa.out
    have HBDa : Hid (Below w.heap.size w W0a) := by rw [← HW0a.out]; exact HBa.out.drew
    obtain ⟨v0a, sta, es1a, cc1a, hmea, hsta⟩ := HMDa.out.step (by unfold maxLen; omega) (wfi hwk.1) (wfi hwk.2)
    obtain ⟨es2a, cc2a, hesa, hm2a⟩ := hsta (ca + 1) (wfi (by omega))
    have HMIa : Hid (MW (setBlock W0a (w.heap.size + 1) (.map es1a cc1a)) (w.heap.size + 1) ((2 * k) + 1) (fun x y => (leadN t.cs k x y : Int))) := HMDa.out.mid (by unfold maxLen; omega) (wfi hwk.1) (wfi hwk.2) hmea
    obtain ⟨esxa, ccxa, hbxa⟩ := HMDa.out.blk
    have HREa : Hid (∀ es c, (setBlock W0a (w.heap.size + 1) (.map es c)).heap[N]? = some (.cells #[.int .i64 x1, .int .i64 x2, .int .i64 x3, .int .i64 x4] 97 (0, 0))) := fun es c => (heap_setBlock_other hbxa _ (by have := hNB; omega)).trans HRDa.out
    have HBEa : Hid (Below w.heap.size w (setBlock W0a (w.heap.size + 1) (.map es2a cc2a))) := HBDa.out.trans (setBlock_below hbxa (by omega) HBDa.out.size)
    obtain ⟨W1a, HW1a⟩ : ∃ W, Hid (setBlock W0a (w.heap.size + 1) (.map es1a cc1a) = W) := ⟨_, rfl⟩
    obtain ⟨W2a, HW2a⟩ : ∃ W, Hid (setBlock W0a (w.heap.size + 1) (.map es2a cc2a) = W) := ⟨_, rfl⟩
    rw [HW1a.out] at hmea hesa HMIa
    rw [HW2a.out] at hesa hm2a HBEa
    have HR1a : Hid (W1a.heap[N]? = some (.cells #[.int .i64 x1, .int .i64 x2, .int .i64 x3, .int .i64 x4] 97 (0, 0))) := by rw [← HW1a.out]; exact HREa.out _ _
    have HR2a : Hid (W2a.heap[N]? = some (.cells #[.int .i64 x1, .int .i64 x2, .int .i64 x3, .int .i64 x4] 97 (0, 0))) := by rw [← HW2a.out]; exact HREa.out _ _
    have HME : Hid ((Instr.mapEntry 111 (.map (some (w.heap.size + 1))) (.agg #[.int .i64 x2, .int .i64 x3])).run Tryz.prog W0a = .ok (.tuple #[v0a, .int .i64 (sta : Int)]) W1a) := hmea
    have HES : Hid ((Instr.entryStore 111 (.map (some (w.heap.size + 1))) (.int .i64 (sta : Int)) (.int .i64 (ca + 1))).run Tryz.prog W1a = .ok () W2a) := hesa
    have HLK : Hid (∀ X, X = W0a ∨ X = W1a → (Instr.lookup 111 (.map (some (w.heap.size + 1))) (.agg #[.int .i64 x2, .int .i64 x3]) false).run Tryz.prog X = .ok (.int .i64 ca) X) := fun X hX => by
      rw [← HCa.out]
      rcases hX with rfl | rfl
      · exact HMDa.out.look (wfi hwk.1) (wfi hwk.2)
      · exact HMIa.out.look (wfi hwk.1) (wfi hwk.2)
    have HCE : Hid ((∀ X, (X = W2a ∨ X = W1a) ∨ X = W0a → X.cell? ⟨N, 1, none⟩ = some (.int .i64 x2)) ∧ (∀ X, (X = W2a ∨ X = W1a) ∨ X = W0a → X.cell? ⟨N, 2, none⟩ = some (.int .i64 x3))) := ⟨fun X hX => by
      rcases hX with (rfl | rfl) | rfl
      · exact row_cell HR2a.out _ _ rfl
      · exact row_cell HR1a.out _ _ rfl
      · exact row_cell HRDa.out _ _ rfl, fun X hX => by
      rcases hX with (rfl | rfl) | rfl
      · exact row_cell HR2a.out _ _ rfl
      · exact row_cell HR1a.out _ _ rfl
      · exact row_cell HRDa.out _ _ rfl⟩
    have HM2a : Hid (MW W2a (w.heap.size + 1) ((2 * k) + 1) (fun x y => if x = x2 ∧ y = x3 then ca + 1 else (fun x y => (leadN t.cs k x y : Int)) x y)) := hm2a
    clear HMDa HRDa HBDa hmea hsta hesa hm2a HMIa hbxa HREa HR1a HW1a HW2a
    refine wp_region_inv (by kernel_rfl) (by kernel_rfl) (fun A ℓ a' w' => ∃ (y0 y1 y2 y3 y4 y5 y6 y7 y8 y9 : Value), a' = ((((((((((A.put (some 14) y0).put (some 15) y1).put (some 16) y2).put (some 17) y3).put (some 18) y4).put (some 19) y5).put (some 20) y6).put (some 21) y7).put (some 22) y8).put (some 23) y9) ∧ MR W0a W1a W2a (w.heap.size + 1) N 1 2 sta x2 x3 ca v0a w' (ℓ 0) (ℓ 1) (ℓ 2) (ℓ 3) (ℓ 4) (ℓ 5) (ℓ 6) (ℓ 7) (ℓ 8) (ℓ 9) (ℓ 10) y0 y1 y2 y3 y4 y5 y6 y7 y8 y9) ?_ ?_ ?_ ?_
    · exact ⟨u14, u15, u16, u17, u18, u19, u20, u21, u22, u23, (by simp only [Act.put, List.setIfInBounds_toArray, List.set_cons_zero, List.set_cons_succ]), ⟨.inr (.inr ⟨rfl, rfl, HW0a.out⟩), (fun g => by cases g), (fun g => by cases g), (fun g => by cases g), (fun g => by cases g), (fun g => by cases g), (fun g => by cases g), (fun g => by cases g), (fun g => by cases g), (fun g => by cases g), (fun g => by cases g), (fun g => by cases g)⟩⟩
    · intro ℓ a' w' hI hall
      obtain ⟨y0, y1, y2, y3, y4, y5, y6, y7, y8, y9, rfl, hr⟩ := hI
      have hall' : ∀ i, i < 11 → ℓ i = true := hall
      obtain rfl := hr.f0 (hall' 0 (by decide))
      obtain rfl := hr.f1 (hall' 1 (by decide))
      obtain rfl := hr.f2 (hall' 2 (by decide))
      obtain rfl := hr.f3 (hall' 3 (by decide))
      obtain rfl := hr.f4 (hall' 4 (by decide))
      obtain rfl := hr.f5 (hall' 5 (by decide))
      obtain rfl := hr.f6 (hall' 6 (by decide))
      obtain rfl := hr.f7 (hall' 7 (by decide))
      obtain rfl := hr.f8 (hall' 8 (by decide))
      obtain rfl := hr.f9 (hall' 9 (by decide))
      have HWE : Hid (w' = W2a) := by
        rcases hr.ww with ⟨_, _, h⟩ | ⟨h, _, _⟩ | ⟨h, _, _⟩
        · exact h
        · rw [hall' 10 (by decide)] at h; cases h
        · rw [hall' 10 (by decide)] at h; cases h
      have hwe := HWE.out.symm
      subst hwe
      clear hall hall' hr HWE
      simp only [Act.put, List.setIfInBounds_toArray, List.set_cons_zero, List.set_cons_succ]
      have KC0 : W2a.cell? ⟨N, 0, none⟩ = some (.int .i64 x1) := row_cell HR2a.out _ _ rfl
      have KC1 : W2a.cell? ⟨N, 1, none⟩ = some (.int .i64 x2) := row_cell HR2a.out _ _ rfl
      have KC2 : W2a.cell? ⟨N, 2, none⟩ = some (.int .i64 x3) := row_cell HR2a.out _ _ rfl
      have KC3 : W2a.cell? ⟨N, 3, none⟩ = some (.int .i64 x4) := row_cell HR2a.out _ _ rfl
      obtain ⟨f1, HF1⟩ : ∃ f1 : Int → Int → Int, Hid (f1 = fun q r => if q = x2 ∧ r = x3 then ca + 1 else (leadN t.cs k q r : Int)) := ⟨_, rfl⟩
      have HM2 : Hid (MW W2a (w.heap.size + 1) (2 * k + 1) f1) := by rw [HF1.out]; exact HM2a.out
      have HFE : Hid (∀ q r, f1 q r = if q = x2 ∧ r = x3 then (leadN t.cs k x2 x3 : Int) + 1 else (leadN t.cs k q r : Int)) := fun q r => by rw [HF1.out, ← HCa.out]
      have hf1b : 0 ≤ f1 x3 x2 ∧ f1 x3 x2 ≤ 100 := by
        rw [HFE.out]
        have h1 := lead_le t.cs k x2 x3
        have h2 := lead_le t.cs k x3 x2
        split <;> omega
      clear HM2a HF1 HME HES HLK HCE HCa
      obtain ⟨q, HQ⟩ : ∃ q, Hid ((x1 == 1) = q) := ⟨_, rfl⟩
      go_wp2_with fail
      refine Calls.mono (impl_queues x1 x2 x3 x4 q _ HQ.out) ?_
      rintro e w3 ⟨rfl, hb3⟩
      have HBb : Hid (Below w.heap.size w w3) := HBEa.out.trans (hb3.mono HBEa.out.size)
      have HMb : Hid (MW w3 (w.heap.size + 1) (2 * k + 1) f1) := HM2.out.below hb3
      have HRb : Hid (w3.heap[N]? = some (.cells #[.int .i64 x1, .int .i64 x2, .int .i64 x3, .int .i64 x4] 97 (0, 0))) := row_below HR2a.out hb3
      clear hb3 HBEa HM2 HR2a KC0 KC1 KC2 KC3
      cases q
      · have HX1 : Hid (x1 ≠ 1) := by have := HQ.out; show _ ≠ _; simpa using this
        have HMN : Hid (MW w3 (w.heap.size + 1) (2 * (k + 1)) (fun x y => (leadN t.cs (k + 1) x y : Int))) := (HMb.out.congr (fun p q _ _ => by rw [HFE.out]; exact lead_one HXX.out HX1.out p q)).mono (by omega)
        go_wp2
        go_roundw
        case rel => exact ⟨k + 1, by omega, by go_num, HBb.out, by rw [hB]; exact HMN.out⟩
        case measure => simp [intOf]; omega
      have HX1 : Hid (x1 = 1) := by have := HQ.out; show _ = _; simpa using this
      obtain ⟨cb, HCb⟩ : ∃ c : Int, Hid (f1 x3 x2 = c) := ⟨_, rfl⟩
      have hcb : 0 ≤ cb ∧ cb ≤ 100 := by rw [← HCb.out]; exact (hf1b)
      have hwrb : IntKind.i64.wrap (cb + 1) = cb + 1 := by rw [IntKind.wrap_i64]; omega
      obtain ⟨W0b, HW0b⟩ : ∃ W, Hid (w3.drew = W) := ⟨_, rfl⟩
      have HMDb : Hid (MW W0b (w.heap.size + 1) (2 * k + 1) f1) := by rw [← HW0b.out]; exact HMb.out.of rfl
      have HRDb : Hid (W0b.heap[N]? = some (.cells #[.int .i64 x1, .int .i64 x2, .int .i64 x3, .int .i64 x4] 97 (0, 0))) := by rw [← HW0b.out]; exact HRb.out
      have HBDb : Hid (Below w.heap.size w W0b) := by rw [← HW0b.out]; exact HBb.out.drew
      obtain ⟨v0b, stb, es1b, cc1b, hmeb, hstb⟩ := HMDb.out.step (by unfold maxLen; omega) (wfi hwk.2) (wfi hwk.1)
      obtain ⟨es2b, cc2b, hesb, hm2b⟩ := hstb (cb + 1) (wfi (by omega))
      have HMIb : Hid (MW (setBlock W0b (w.heap.size + 1) (.map es1b cc1b)) (w.heap.size + 1) ((2 * k + 1) + 1) f1) := HMDb.out.mid (by unfold maxLen; omega) (wfi hwk.2) (wfi hwk.1) hmeb
      obtain ⟨esxb, ccxb, hbxb⟩ := HMDb.out.blk
      have HREb : Hid (∀ es c, (setBlock W0b (w.heap.size + 1) (.map es c)).heap[N]? = some (.cells #[.int .i64 x1, .int .i64 x2, .int .i64 x3, .int .i64 x4] 97 (0, 0))) := fun es c => (heap_setBlock_other hbxb _ (by have := hNB; omega)).trans HRDb.out
      have HBEb : Hid (Below w.heap.size w (setBlock W0b (w.heap.size + 1) (.map es2b cc2b))) := HBDb.out.trans (setBlock_below hbxb (by omega) HBDb.out.size)
      obtain ⟨W1b, HW1b⟩ : ∃ W, Hid (setBlock W0b (w.heap.size + 1) (.map es1b cc1b) = W) := ⟨_, rfl⟩
      obtain ⟨W2b, HW2b⟩ : ∃ W, Hid (setBlock W0b (w.heap.size + 1) (.map es2b cc2b) = W) := ⟨_, rfl⟩
      rw [HW1b.out] at hmeb hesb HMIb
      rw [HW2b.out] at hesb hm2b HBEb
      have HR1b : Hid (W1b.heap[N]? = some (.cells #[.int .i64 x1, .int .i64 x2, .int .i64 x3, .int .i64 x4] 97 (0, 0))) := by rw [← HW1b.out]; exact HREb.out _ _
      have HR2b : Hid (W2b.heap[N]? = some (.cells #[.int .i64 x1, .int .i64 x2, .int .i64 x3, .int .i64 x4] 97 (0, 0))) := by rw [← HW2b.out]; exact HREb.out _ _
      have HME : Hid ((Instr.mapEntry 111 (.map (some (w.heap.size + 1))) (.agg #[.int .i64 x3, .int .i64 x2])).run Tryz.prog W0b = .ok (.tuple #[v0b, .int .i64 (stb : Int)]) W1b) := hmeb
      have HES : Hid ((Instr.entryStore 111 (.map (some (w.heap.size + 1))) (.int .i64 (stb : Int)) (.int .i64 (cb + 1))).run Tryz.prog W1b = .ok () W2b) := hesb
      have HLK : Hid (∀ X, X = W0b ∨ X = W1b → (Instr.lookup 111 (.map (some (w.heap.size + 1))) (.agg #[.int .i64 x3, .int .i64 x2]) false).run Tryz.prog X = .ok (.int .i64 cb) X) := fun X hX => by
        rw [← HCb.out]
        rcases hX with rfl | rfl
        · exact HMDb.out.look (wfi hwk.2) (wfi hwk.1)
        · exact HMIb.out.look (wfi hwk.2) (wfi hwk.1)
      have HCE : Hid ((∀ X, (X = W2b ∨ X = W1b) ∨ X = W0b → X.cell? ⟨N, 2, none⟩ = some (.int .i64 x3)) ∧ (∀ X, (X = W2b ∨ X = W1b) ∨ X = W0b → X.cell? ⟨N, 1, none⟩ = some (.int .i64 x2))) := ⟨fun X hX => by
        rcases hX with (rfl | rfl) | rfl
        · exact row_cell HR2b.out _ _ rfl
        · exact row_cell HR1b.out _ _ rfl
        · exact row_cell HRDb.out _ _ rfl, fun X hX => by
        rcases hX with (rfl | rfl) | rfl
        · exact row_cell HR2b.out _ _ rfl
        · exact row_cell HR1b.out _ _ rfl
        · exact row_cell HRDb.out _ _ rfl⟩
      have HM2b : Hid (MW W2b (w.heap.size + 1) ((2 * k + 1) + 1) (fun x y => if x = x3 ∧ y = x2 then cb + 1 else f1 x y)) := hm2b
      clear HMDb HRDb HBDb hmeb hstb hesb hm2b HMIb hbxb HREb HR1b HW1b HW2b
      go_wp2
      refine wp_region_inv (by kernel_rfl) (by kernel_rfl) (fun A ℓ a' w' => ∃ (y0 y1 y2 y3 y4 y5 y6 y7 y8 y9 : Value), a' = ((((((((((A.put (some 27) y0).put (some 28) y1).put (some 29) y2).put (some 30) y3).put (some 31) y4).put (some 32) y5).put (some 33) y6).put (some 34) y7).put (some 35) y8).put (some 36) y9) ∧ MR W0b W1b W2b (w.heap.size + 1) N 2 1 stb x3 x2 cb v0b w' (ℓ 0) (ℓ 1) (ℓ 2) (ℓ 3) (ℓ 4) (ℓ 5) (ℓ 6) (ℓ 7) (ℓ 8) (ℓ 9) (ℓ 10) y0 y1 y2 y3 y4 y5 y6 y7 y8 y9) ?_ ?_ ?_ ?_
      · exact ⟨u27, u28, u29, u30, u31, u32, u33, u34, u35, u36, (by simp only [Act.put, List.setIfInBounds_toArray, List.set_cons_zero, List.set_cons_succ]), ⟨.inr (.inr ⟨rfl, rfl, HW0b.out⟩), (fun g => by cases g), (fun g => by cases g), (fun g => by cases g), (fun g => by cases g), (fun g => by cases g), (fun g => by cases g), (fun g => by cases g), (fun g => by cases g), (fun g => by cases g), (fun g => by cases g), (fun g => by cases g)⟩⟩
      · intro ℓ a' w' hI hall
        obtain ⟨y0, y1, y2, y3, y4, y5, y6, y7, y8, y9, rfl, hr⟩ := hI
        have hall' : ∀ i, i < 11 → ℓ i = true := hall
        obtain rfl := hr.f0 (hall' 0 (by decide))
        obtain rfl := hr.f1 (hall' 1 (by decide))
        obtain rfl := hr.f2 (hall' 2 (by decide))
        obtain rfl := hr.f3 (hall' 3 (by decide))
        obtain rfl := hr.f4 (hall' 4 (by decide))
        obtain rfl := hr.f5 (hall' 5 (by decide))
        obtain rfl := hr.f6 (hall' 6 (by decide))
        obtain rfl := hr.f7 (hall' 7 (by decide))
        obtain rfl := hr.f8 (hall' 8 (by decide))
        obtain rfl := hr.f9 (hall' 9 (by decide))
        have HWE : Hid (w' = W2b) := by
          rcases hr.ww with ⟨_, _, h⟩ | ⟨h, _, _⟩ | ⟨h, _, _⟩
          · exact h
          · rw [hall' 10 (by decide)] at h; cases h
          · rw [hall' 10 (by decide)] at h; cases h
        have hwe := HWE.out.symm
        subst hwe
        clear hall hall' hr HWE
        simp only [Act.put, List.setIfInBounds_toArray, List.set_cons_zero, List.set_cons_succ]
        have HMN : Hid (MW W2b (w.heap.size + 1) (2 * (k + 1)) (fun x y => (leadN t.cs (k + 1) x y : Int))) := (HM2b.out.congr (fun p q _ _ => by rw [← HCb.out]; exact lead_two HXX.out HX1.out f1 HFE.out p q)).mono (by omega)
        clear HM2b HCb HME HES HLK HCE
        go_wp2
        go_roundw
        case rel => exact ⟨k + 1, by omega, by go_num, HBEb.out, by rw [hB]; exact HMN.out⟩
        case measure => simp [intOf]; omega
      · intro ℓ a' w' i o hI ho hi hL hdep K hK
        obtain ⟨y0, y1, y2, y3, y4, y5, y6, y7, y8, y9, rfl, hr⟩ := hI
        have hi7 : i < 11 := hi
        have hcs : i = 0 ∨ i = 1 ∨ i = 2 ∨ i = 3 ∨ i = 4 ∨ i = 5 ∨ i = 6 ∨ i = 7 ∨ i = 8 ∨ i = 9 ∨ i = 10 := by omega
        clear hi hi7
        rcases hcs with rfl | rfl | rfl | rfl | rfl | rfl | rfl | rfl | rfl | rfl | rfl
        · obtain rfl := Option.some.inj ho
          clear hdep ho
          revert hK
          intro hK
          rw [if_pos (by rfl)]
          try simp only [Act.put, List.setIfInBounds_toArray, List.set_cons_zero, List.set_cons_succ]
          go_simp
          exact hK.out _ _ (fun j => if j = 0 then true else ℓ j) ⟨.map (some (w.heap.size + 1)), y1, y2, y3, y4, y5, y6, y7, y8, y9, (by simp only [Act.put, List.setIfInBounds_toArray, List.set_cons_zero, List.set_cons_succ]), ⟨hr.ww, hr.cl, (fun _ => rfl), hr.f1, hr.f2, hr.f3, hr.f4, hr.f5, hr.f6, hr.f7, hr.f8, hr.f9⟩⟩ (if_pos rfl) (fun j hj => if_neg hj)
        · obtain rfl := Option.some.inj ho
          clear hdep ho
          revert hK
          intro hK
          rw [if_pos (by rfl)]
          try simp only [Act.put, List.setIfInBounds_toArray, List.set_cons_zero, List.set_cons_succ]
          go_simp
          exact hK.out _ _ (fun j => if j = 1 then true else ℓ j) ⟨y0, .pointer (some ⟨N, 2, none⟩), y2, y3, y4, y5, y6, y7, y8, y9, (by simp only [Act.put, List.setIfInBounds_toArray, List.set_cons_zero, List.set_cons_succ]), ⟨hr.ww, hr.cl, hr.f0, (fun _ => rfl), hr.f2, hr.f3, hr.f4, hr.f5, hr.f6, hr.f7, hr.f8, hr.f9⟩⟩ (if_pos rfl) (fun j hj => if_neg hj)
        · obtain rfl := Option.some.inj ho
          have g1 : ℓ 1 = true := hdep { on := 1, ground := Ground.data } (by simp) rfl
          clear hdep ho
          revert hK
          obtain rfl := hr.f1 g1
          have hcl : w'.cell? ⟨N, 2, none⟩ = some (.int .i64 x3) := HCE.out.1 w' (by rcases hr.ww with ⟨_, _, h⟩ | ⟨_, _, h⟩ | ⟨_, _, h⟩ <;> simp [h])
          intro hK
          rw [if_pos (by rfl)]
          try simp only [Act.put, List.setIfInBounds_toArray, List.set_cons_zero, List.set_cons_succ]
          go_simp
          exact hK.out _ _ (fun j => if j = 2 then true else ℓ j) ⟨y0, .pointer (some ⟨N, 2, none⟩), .int .i64 x3, y3, y4, y5, y6, y7, y8, y9, (by simp only [Act.put, List.setIfInBounds_toArray, List.set_cons_zero, List.set_cons_succ]), ⟨hr.ww, hr.cl, hr.f0, hr.f1, (fun _ => rfl), hr.f3, hr.f4, hr.f5, hr.f6, hr.f7, hr.f8, hr.f9⟩⟩ (if_pos rfl) (fun j hj => if_neg hj)
        · obtain rfl := Option.some.inj ho
          clear hdep ho
          revert hK
          intro hK
          rw [if_pos (by rfl)]
          try simp only [Act.put, List.setIfInBounds_toArray, List.set_cons_zero, List.set_cons_succ]
          go_simp
          exact hK.out _ _ (fun j => if j = 3 then true else ℓ j) ⟨y0, y1, y2, .pointer (some ⟨N, 1, none⟩), y4, y5, y6, y7, y8, y9, (by simp only [Act.put, List.setIfInBounds_toArray, List.set_cons_zero, List.set_cons_succ]), ⟨hr.ww, hr.cl, hr.f0, hr.f1, hr.f2, (fun _ => rfl), hr.f4, hr.f5, hr.f6, hr.f7, hr.f8, hr.f9⟩⟩ (if_pos rfl) (fun j hj => if_neg hj)
        · obtain rfl := Option.some.inj ho
          have g3 : ℓ 3 = true := hdep { on := 3, ground := Ground.data } (by simp) rfl
          clear hdep ho
          revert hK
          obtain rfl := hr.f3 g3
          have hcl : w'.cell? ⟨N, 1, none⟩ = some (.int .i64 x2) := HCE.out.2 w' (by rcases hr.ww with ⟨_, _, h⟩ | ⟨_, _, h⟩ | ⟨_, _, h⟩ <;> simp [h])
          intro hK
          rw [if_pos (by rfl)]
          try simp only [Act.put, List.setIfInBounds_toArray, List.set_cons_zero, List.set_cons_succ]
          go_simp
          exact hK.out _ _ (fun j => if j = 4 then true else ℓ j) ⟨y0, y1, y2, .pointer (some ⟨N, 1, none⟩), .int .i64 x2, y5, y6, y7, y8, y9, (by simp only [Act.put, List.setIfInBounds_toArray, List.set_cons_zero, List.set_cons_succ]), ⟨hr.ww, hr.cl, hr.f0, hr.f1, hr.f2, hr.f3, (fun _ => rfl), hr.f5, hr.f6, hr.f7, hr.f8, hr.f9⟩⟩ (if_pos rfl) (fun j hj => if_neg hj)
        · obtain rfl := Option.some.inj ho
          have g2 : ℓ 2 = true := hdep { on := 2, ground := Ground.data } (by simp) rfl
          have g4 : ℓ 4 = true := hdep { on := 4, ground := Ground.data } (by simp) rfl
          clear hdep ho
          revert hK
          obtain rfl := hr.f2 g2
          obtain rfl := hr.f4 g4
          intro hK
          rw [if_pos (by rfl)]
          try simp only [Act.put, List.setIfInBounds_toArray, List.set_cons_zero, List.set_cons_succ]
          go_simp
          exact hK.out _ _ (fun j => if j = 5 then true else ℓ j) ⟨y0, y1, .int .i64 x3, y3, .int .i64 x2, .agg #[.int .i64 x3, .int .i64 x2], y6, y7, y8, y9, (by simp only [Act.put, List.setIfInBounds_toArray, List.set_cons_zero, List.set_cons_succ]), ⟨hr.ww, hr.cl, hr.f0, hr.f1, hr.f2, hr.f3, hr.f4, (fun _ => rfl), hr.f6, hr.f7, hr.f8, hr.f9⟩⟩ (if_pos rfl) (fun j hj => if_neg hj)
        · obtain rfl := Option.some.inj ho
          have g0 : ℓ 0 = true := hdep { on := 0, ground := Ground.data } (by simp) rfl
          have g5 : ℓ 5 = true := hdep { on := 5, ground := Ground.data } (by simp) rfl
          clear hdep ho
          revert hK
          obtain rfl := hr.f0 g0
          obtain rfl := hr.f5 g5
          have hlk : (Instr.lookup 111 (.map (some (w.heap.size + 1))) (.agg #[.int .i64 x3, .int .i64 x2]) false).run Tryz.prog w' = .ok (.int .i64 cb) w' := HLK.out w' (by
            rcases hr.ww with ⟨h, _, _⟩ | ⟨_, _, h⟩ | ⟨_, _, h⟩
            · have := hr.cl h; rw [this] at hL; cases hL
            · exact .inr h
            · exact .inl h)
          intro hK
          rw [if_pos (by rfl)]
          try simp only [Act.put, List.setIfInBounds_toArray, List.set_cons_zero, List.set_cons_succ]
          go_simp
          exact hK.out _ _ (fun j => if j = 6 then true else ℓ j) ⟨.map (some (w.heap.size + 1)), y1, y2, y3, y4, .agg #[.int .i64 x3, .int .i64 x2], .int .i64 cb, y7, y8, y9, (by simp only [Act.put, List.setIfInBounds_toArray, List.set_cons_zero, List.set_cons_succ]), ⟨hr.ww, (fun _ => rfl), hr.f0, hr.f1, hr.f2, hr.f3, hr.f4, hr.f5, (fun _ => rfl), hr.f7, hr.f8, hr.f9⟩⟩ (if_pos rfl) (fun j hj => if_neg hj)
        · obtain rfl := Option.some.inj ho
          have g6 : ℓ 6 = true := hdep { on := 6, ground := Ground.data } (by simp) rfl
          clear hdep ho
          revert hK
          obtain rfl := hr.f6 g6
          intro hK
          rw [if_pos (by rfl)]
          try simp only [Act.put, List.setIfInBounds_toArray, List.set_cons_zero, List.set_cons_succ]
          go_simp
          exact hK.out _ _ (fun j => if j = 7 then true else ℓ j) ⟨y0, y1, y2, y3, y4, y5, .int .i64 cb, .int .i64 (cb + 1), y8, y9, (by simp only [Act.put, List.setIfInBounds_toArray, List.set_cons_zero, List.set_cons_succ]), ⟨hr.ww, hr.cl, hr.f0, hr.f1, hr.f2, hr.f3, hr.f4, hr.f5, hr.f6, (fun _ => rfl), hr.f8, hr.f9⟩⟩ (if_pos rfl) (fun j hj => if_neg hj)
        · obtain rfl := Option.some.inj ho
          have g0 : ℓ 0 = true := hdep { on := 0, ground := Ground.data } (by simp) rfl
          have g5 : ℓ 5 = true := hdep { on := 5, ground := Ground.data } (by simp) rfl
          clear hdep ho
          revert hK
          obtain rfl := hr.f0 g0
          obtain rfl := hr.f5 g5
          have hw0 : W0b = w' := by
            rcases hr.ww with ⟨_, h, _⟩ | ⟨_, h, _⟩ | ⟨_, _, h⟩
            · rw [h] at hL; cases hL
            · rw [h] at hL; cases hL
            · exact h.symm
          have h10 : ℓ 10 = false := by
            rcases hr.ww with ⟨_, h, _⟩ | ⟨_, h, _⟩ | ⟨h, _, _⟩
            · rw [h] at hL; cases hL
            · rw [h] at hL; cases hL
            · exact h
          have hme := HME.out
          subst hw0
          intro hK
          rw [if_pos (by rfl)]
          try simp only [Act.put, List.setIfInBounds_toArray, List.set_cons_zero, List.set_cons_succ]
          go_simp
          exact hK.out _ _ (fun j => if j = 8 then true else ℓ j) ⟨.map (some (w.heap.size + 1)), y1, y2, y3, y4, .agg #[.int .i64 x3, .int .i64 x2], y6, y7, .tuple #[v0b, .int .i64 (stb : Int)], y9, (by simp only [Act.put, List.setIfInBounds_toArray, List.set_cons_zero, List.set_cons_succ]), ⟨(.inr (.inl ⟨by simp [h10], rfl, rfl⟩)), hr.cl, hr.f0, hr.f1, hr.f2, hr.f3, hr.f4, hr.f5, hr.f6, hr.f7, (fun _ => rfl), hr.f9⟩⟩ (if_pos rfl) (fun j hj => if_neg hj)
        · obtain rfl := Option.some.inj ho
          have g8 : ℓ 8 = true := hdep { on := 8, ground := Ground.data } (by simp) rfl
          clear hdep ho
          revert hK
          obtain rfl := hr.f8 g8
          intro hK
          rw [if_pos (by rfl)]
          try simp only [Act.put, List.setIfInBounds_toArray, List.set_cons_zero, List.set_cons_succ]
          go_simp
          exact hK.out _ _ (fun j => if j = 9 then true else ℓ j) ⟨y0, y1, y2, y3, y4, y5, y6, y7, .tuple #[v0b, .int .i64 (stb : Int)], .int .i64 (stb : Int), (by simp only [Act.put, List.setIfInBounds_toArray, List.set_cons_zero, List.set_cons_succ]), ⟨hr.ww, hr.cl, hr.f0, hr.f1, hr.f2, hr.f3, hr.f4, hr.f5, hr.f6, hr.f7, hr.f8, (fun _ => rfl)⟩⟩ (if_pos rfl) (fun j hj => if_neg hj)
        · obtain rfl := Option.some.inj ho
          have g0 : ℓ 0 = true := hdep { on := 0, ground := Ground.data } (by simp) rfl
          have g9 : ℓ 9 = true := hdep { on := 9, ground := Ground.data } (by simp) rfl
          have g7 : ℓ 7 = true := hdep { on := 7, ground := Ground.data } (by simp) rfl
          have g8 : ℓ 8 = true := hdep { on := 8, ground := Ground.phase } (by simp) rfl
          have g6 : ℓ 6 = true := hdep { on := 6, ground := Ground.phase } (by simp) rfl
          clear hdep ho
          revert hK
          obtain rfl := hr.f0 g0
          obtain rfl := hr.f9 g9
          obtain rfl := hr.f7 g7
          have hw1 : W1b = w' := by
            rcases hr.ww with ⟨h, _, _⟩ | ⟨_, _, h⟩ | ⟨_, h, _⟩
            · rw [h] at hL; cases hL
            · exact h.symm
            · rw [h] at g8; cases g8
          have hes := HES.out
          subst hw1
          intro hK
          rw [if_pos (by rfl)]
          try simp only [Act.put, List.setIfInBounds_toArray, List.set_cons_zero, List.set_cons_succ]
          go_simp
          exact hK.out _ _ (fun j => if j = 10 then true else ℓ j) ⟨.map (some (w.heap.size + 1)), y1, y2, y3, y4, y5, y6, .int .i64 (cb + 1), y8, .int .i64 (stb : Int), (by simp only [Act.put, List.setIfInBounds_toArray, List.set_cons_zero, List.set_cons_succ]), ⟨(.inl ⟨rfl, by simp [g8], rfl⟩), (fun _ => by simp [g6]), hr.f0, hr.f1, hr.f2, hr.f3, hr.f4, hr.f5, hr.f6, hr.f7, hr.f8, hr.f9⟩⟩ (if_pos rfl) (fun j hj => if_neg hj)
      · rintro a' w' ℓ ℓ' hℓ hI
        rw [← show ℓ = ℓ' from funext hℓ]
        exact hI
    · intro ℓ a' w' i o hI ho hi hL hdep K hK
      obtain ⟨y0, y1, y2, y3, y4, y5, y6, y7, y8, y9, rfl, hr⟩ := hI
      have hi7 : i < 11 := hi
      have hcs : i = 0 ∨ i = 1 ∨ i = 2 ∨ i = 3 ∨ i = 4 ∨ i = 5 ∨ i = 6 ∨ i = 7 ∨ i = 8 ∨ i = 9 ∨ i = 10 := by omega
      clear hi hi7
      rcases hcs with rfl | rfl | rfl | rfl | rfl | rfl | rfl | rfl | rfl | rfl | rfl
      · obtain rfl := Option.some.inj ho
        clear hdep ho
        revert hK
        intro hK
        rw [if_pos (by rfl)]
        try simp only [Act.put, List.setIfInBounds_toArray, List.set_cons_zero, List.set_cons_succ]
        go_simp
        exact hK.out _ _ (fun j => if j = 0 then true else ℓ j) ⟨.map (some (w.heap.size + 1)), y1, y2, y3, y4, y5, y6, y7, y8, y9, (by simp only [Act.put, List.setIfInBounds_toArray, List.set_cons_zero, List.set_cons_succ]), ⟨hr.ww, hr.cl, (fun _ => rfl), hr.f1, hr.f2, hr.f3, hr.f4, hr.f5, hr.f6, hr.f7, hr.f8, hr.f9⟩⟩ (if_pos rfl) (fun j hj => if_neg hj)
      · obtain rfl := Option.some.inj ho
        clear hdep ho
        revert hK
        intro hK
        rw [if_pos (by rfl)]
        try simp only [Act.put, List.setIfInBounds_toArray, List.set_cons_zero, List.set_cons_succ]
        go_simp
        exact hK.out _ _ (fun j => if j = 1 then true else ℓ j) ⟨y0, .pointer (some ⟨N, 1, none⟩), y2, y3, y4, y5, y6, y7, y8, y9, (by simp only [Act.put, List.setIfInBounds_toArray, List.set_cons_zero, List.set_cons_succ]), ⟨hr.ww, hr.cl, hr.f0, (fun _ => rfl), hr.f2, hr.f3, hr.f4, hr.f5, hr.f6, hr.f7, hr.f8, hr.f9⟩⟩ (if_pos rfl) (fun j hj => if_neg hj)
      · obtain rfl := Option.some.inj ho
        have g1 : ℓ 1 = true := hdep { on := 1, ground := Ground.data } (by simp) rfl
        clear hdep ho
        revert hK
        obtain rfl := hr.f1 g1
        have hcl : w'.cell? ⟨N, 1, none⟩ = some (.int .i64 x2) := HCE.out.1 w' (by rcases hr.ww with ⟨_, _, h⟩ | ⟨_, _, h⟩ | ⟨_, _, h⟩ <;> simp [h])
        intro hK
        rw [if_pos (by rfl)]
        try simp only [Act.put, List.setIfInBounds_toArray, List.set_cons_zero, List.set_cons_succ]
        go_simp
        exact hK.out _ _ (fun j => if j = 2 then true else ℓ j) ⟨y0, .pointer (some ⟨N, 1, none⟩), .int .i64 x2, y3, y4, y5, y6, y7, y8, y9, (by simp only [Act.put, List.setIfInBounds_toArray, List.set_cons_zero, List.set_cons_succ]), ⟨hr.ww, hr.cl, hr.f0, hr.f1, (fun _ => rfl), hr.f3, hr.f4, hr.f5, hr.f6, hr.f7, hr.f8, hr.f9⟩⟩ (if_pos rfl) (fun j hj => if_neg hj)
      · obtain rfl := Option.some.inj ho
        clear hdep ho
        revert hK
        intro hK
        rw [if_pos (by rfl)]
        try simp only [Act.put, List.setIfInBounds_toArray, List.set_cons_zero, List.set_cons_succ]
        go_simp
        exact hK.out _ _ (fun j => if j = 3 then true else ℓ j) ⟨y0, y1, y2, .pointer (some ⟨N, 2, none⟩), y4, y5, y6, y7, y8, y9, (by simp only [Act.put, List.setIfInBounds_toArray, List.set_cons_zero, List.set_cons_succ]), ⟨hr.ww, hr.cl, hr.f0, hr.f1, hr.f2, (fun _ => rfl), hr.f4, hr.f5, hr.f6, hr.f7, hr.f8, hr.f9⟩⟩ (if_pos rfl) (fun j hj => if_neg hj)
      · obtain rfl := Option.some.inj ho
        have g3 : ℓ 3 = true := hdep { on := 3, ground := Ground.data } (by simp) rfl
        clear hdep ho
        revert hK
        obtain rfl := hr.f3 g3
        have hcl : w'.cell? ⟨N, 2, none⟩ = some (.int .i64 x3) := HCE.out.2 w' (by rcases hr.ww with ⟨_, _, h⟩ | ⟨_, _, h⟩ | ⟨_, _, h⟩ <;> simp [h])
        intro hK
        rw [if_pos (by rfl)]
        try simp only [Act.put, List.setIfInBounds_toArray, List.set_cons_zero, List.set_cons_succ]
        go_simp
        exact hK.out _ _ (fun j => if j = 4 then true else ℓ j) ⟨y0, y1, y2, .pointer (some ⟨N, 2, none⟩), .int .i64 x3, y5, y6, y7, y8, y9, (by simp only [Act.put, List.setIfInBounds_toArray, List.set_cons_zero, List.set_cons_succ]), ⟨hr.ww, hr.cl, hr.f0, hr.f1, hr.f2, hr.f3, (fun _ => rfl), hr.f5, hr.f6, hr.f7, hr.f8, hr.f9⟩⟩ (if_pos rfl) (fun j hj => if_neg hj)
      · obtain rfl := Option.some.inj ho
        have g2 : ℓ 2 = true := hdep { on := 2, ground := Ground.data } (by simp) rfl
        have g4 : ℓ 4 = true := hdep { on := 4, ground := Ground.data } (by simp) rfl
        clear hdep ho
        revert hK
        obtain rfl := hr.f2 g2
        obtain rfl := hr.f4 g4
        intro hK
        rw [if_pos (by rfl)]
        try simp only [Act.put, List.setIfInBounds_toArray, List.set_cons_zero, List.set_cons_succ]
        go_simp
        exact hK.out _ _ (fun j => if j = 5 then true else ℓ j) ⟨y0, y1, .int .i64 x2, y3, .int .i64 x3, .agg #[.int .i64 x2, .int .i64 x3], y6, y7, y8, y9, (by simp only [Act.put, List.setIfInBounds_toArray, List.set_cons_zero, List.set_cons_succ]), ⟨hr.ww, hr.cl, hr.f0, hr.f1, hr.f2, hr.f3, hr.f4, (fun _ => rfl), hr.f6, hr.f7, hr.f8, hr.f9⟩⟩ (if_pos rfl) (fun j hj => if_neg hj)
      · obtain rfl := Option.some.inj ho
        have g0 : ℓ 0 = true := hdep { on := 0, ground := Ground.data } (by simp) rfl
        have g5 : ℓ 5 = true := hdep { on := 5, ground := Ground.data } (by simp) rfl
        clear hdep ho
        revert hK
        obtain rfl := hr.f0 g0
        obtain rfl := hr.f5 g5
        have hlk : (Instr.lookup 111 (.map (some (w.heap.size + 1))) (.agg #[.int .i64 x2, .int .i64 x3]) false).run Tryz.prog w' = .ok (.int .i64 ca) w' := HLK.out w' (by
          rcases hr.ww with ⟨h, _, _⟩ | ⟨_, _, h⟩ | ⟨_, _, h⟩
          · have := hr.cl h; rw [this] at hL; cases hL
          · exact .inr h
          · exact .inl h)
        intro hK
        rw [if_pos (by rfl)]
        try simp only [Act.put, List.setIfInBounds_toArray, List.set_cons_zero, List.set_cons_succ]
        go_simp
        exact hK.out _ _ (fun j => if j = 6 then true else ℓ j) ⟨.map (some (w.heap.size + 1)), y1, y2, y3, y4, .agg #[.int .i64 x2, .int .i64 x3], .int .i64 ca, y7, y8, y9, (by simp only [Act.put, List.setIfInBounds_toArray, List.set_cons_zero, List.set_cons_succ]), ⟨hr.ww, (fun _ => rfl), hr.f0, hr.f1, hr.f2, hr.f3, hr.f4, hr.f5, (fun _ => rfl), hr.f7, hr.f8, hr.f9⟩⟩ (if_pos rfl) (fun j hj => if_neg hj)
      · obtain rfl := Option.some.inj ho
        have g6 : ℓ 6 = true := hdep { on := 6, ground := Ground.data } (by simp) rfl
        clear hdep ho
        revert hK
        obtain rfl := hr.f6 g6
        intro hK
        rw [if_pos (by rfl)]
        try simp only [Act.put, List.setIfInBounds_toArray, List.set_cons_zero, List.set_cons_succ]
        go_simp
        exact hK.out _ _ (fun j => if j = 7 then true else ℓ j) ⟨y0, y1, y2, y3, y4, y5, .int .i64 ca, .int .i64 (ca + 1), y8, y9, (by simp only [Act.put, List.setIfInBounds_toArray, List.set_cons_zero, List.set_cons_succ]), ⟨hr.ww, hr.cl, hr.f0, hr.f1, hr.f2, hr.f3, hr.f4, hr.f5, hr.f6, (fun _ => rfl), hr.f8, hr.f9⟩⟩ (if_pos rfl) (fun j hj => if_neg hj)
      · obtain rfl := Option.some.inj ho
        have g0 : ℓ 0 = true := hdep { on := 0, ground := Ground.data } (by simp) rfl
        have g5 : ℓ 5 = true := hdep { on := 5, ground := Ground.data } (by simp) rfl
        clear hdep ho
        revert hK
        obtain rfl := hr.f0 g0
        obtain rfl := hr.f5 g5
        have hw0 : W0a = w' := by
          rcases hr.ww with ⟨_, h, _⟩ | ⟨_, h, _⟩ | ⟨_, _, h⟩
          · rw [h] at hL; cases hL
          · rw [h] at hL; cases hL
          · exact h.symm
        have h10 : ℓ 10 = false := by
          rcases hr.ww with ⟨_, h, _⟩ | ⟨_, h, _⟩ | ⟨h, _, _⟩
          · rw [h] at hL; cases hL
          · rw [h] at hL; cases hL
          · exact h
        have hme := HME.out
        subst hw0
        intro hK
        rw [if_pos (by rfl)]
        try simp only [Act.put, List.setIfInBounds_toArray, List.set_cons_zero, List.set_cons_succ]
        go_simp
        exact hK.out _ _ (fun j => if j = 8 then true else ℓ j) ⟨.map (some (w.heap.size + 1)), y1, y2, y3, y4, .agg #[.int .i64 x2, .int .i64 x3], y6, y7, .tuple #[v0a, .int .i64 (sta : Int)], y9, (by simp only [Act.put, List.setIfInBounds_toArray, List.set_cons_zero, List.set_cons_succ]), ⟨(.inr (.inl ⟨by simp [h10], rfl, rfl⟩)), hr.cl, hr.f0, hr.f1, hr.f2, hr.f3, hr.f4, hr.f5, hr.f6, hr.f7, (fun _ => rfl), hr.f9⟩⟩ (if_pos rfl) (fun j hj => if_neg hj)
      · obtain rfl := Option.some.inj ho
        have g8 : ℓ 8 = true := hdep { on := 8, ground := Ground.data } (by simp) rfl
        clear hdep ho
        revert hK
        obtain rfl := hr.f8 g8
        intro hK
        rw [if_pos (by rfl)]
        try simp only [Act.put, List.setIfInBounds_toArray, List.set_cons_zero, List.set_cons_succ]
        go_simp
        exact hK.out _ _ (fun j => if j = 9 then true else ℓ j) ⟨y0, y1, y2, y3, y4, y5, y6, y7, .tuple #[v0a, .int .i64 (sta : Int)], .int .i64 (sta : Int), (by simp only [Act.put, List.setIfInBounds_toArray, List.set_cons_zero, List.set_cons_succ]), ⟨hr.ww, hr.cl, hr.f0, hr.f1, hr.f2, hr.f3, hr.f4, hr.f5, hr.f6, hr.f7, hr.f8, (fun _ => rfl)⟩⟩ (if_pos rfl) (fun j hj => if_neg hj)
      · obtain rfl := Option.some.inj ho
        have g0 : ℓ 0 = true := hdep { on := 0, ground := Ground.data } (by simp) rfl
        have g9 : ℓ 9 = true := hdep { on := 9, ground := Ground.data } (by simp) rfl
        have g7 : ℓ 7 = true := hdep { on := 7, ground := Ground.data } (by simp) rfl
        have g8 : ℓ 8 = true := hdep { on := 8, ground := Ground.phase } (by simp) rfl
        have g6 : ℓ 6 = true := hdep { on := 6, ground := Ground.phase } (by simp) rfl
        clear hdep ho
        revert hK
        obtain rfl := hr.f0 g0
        obtain rfl := hr.f9 g9
        obtain rfl := hr.f7 g7
        have hw1 : W1a = w' := by
          rcases hr.ww with ⟨h, _, _⟩ | ⟨_, _, h⟩ | ⟨_, h, _⟩
          · rw [h] at hL; cases hL
          · exact h.symm
          · rw [h] at g8; cases g8
        have hes := HES.out
        subst hw1
        intro hK
        rw [if_pos (by rfl)]
        try simp only [Act.put, List.setIfInBounds_toArray, List.set_cons_zero, List.set_cons_succ]
        go_simp
        exact hK.out _ _ (fun j => if j = 10 then true else ℓ j) ⟨.map (some (w.heap.size + 1)), y1, y2, y3, y4, y5, y6, .int .i64 (ca + 1), y8, .int .i64 (sta : Int), (by simp only [Act.put, List.setIfInBounds_toArray, List.set_cons_zero, List.set_cons_succ]), ⟨(.inl ⟨rfl, by simp [g8], rfl⟩), (fun _ => by simp [g6]), hr.f0, hr.f1, hr.f2, hr.f3, hr.f4, hr.f5, hr.f6, hr.f7, hr.f8, hr.f9⟩⟩ (if_pos rfl) (fun j hj => if_neg hj)
    · rintro a' w' ℓ ℓ' hℓ hI
      rw [← show ℓ = ℓ' from funext hℓ]
      exact hI
end Go.Proofs.YtgmhcngdgfhhaaaGreatDoor
