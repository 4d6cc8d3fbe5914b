
/-
  Plan of the specification. Conditions: the lists lie in memory.
-/
import Derived.Test.YtmgopppgckgglaaGreatDoorBas
import Derived.Test.YtmgopppgckgglaaGreatDoorJsp
namespace Go.Proofs.YtmgopppgckgglaaGreatDoor
open Go.ChangeShapes Go.WideShapes Go.ChangeAt Go.RowKit Go.Deep Go.Joins
set_option linter.unusedVariables false

theorem res_spn {W : World} {B : Nat} {cs : Array Value} {b : Bool} {tmps : Array Value} (h : W.heap[B]? = some (.cells cs 33 (0, 0))) (hl : cs.size = 19) (ht : tmps[4]? = some (.pointer (some ⟨B, 0, none⟩))) (hq : tmps[5]? = some (.bool b)) : (results Tryz.f9 tmps).run Tryz.prog W = .ok (.tuple #[.agg cs, .bool b]) W := by
  have hld : (loadVar 33 ⟨B, 0, none⟩).run Tryz.prog W = .ok (.agg cs) W := run_loadVar_row (P := Tryz.prog) W B 33 33 cs (0, 0) _ h Tryz.underlying33 rfl (by rw [hl]; kernel_rfl)
  unfold results
  rw [Tryz.results9]
  simp [ht, hq, asAddr, hld]
structure Rpl (W0 : World) (Z C : Array Value) (v0 : Value) (v1 : Value) (v2 : Value) (v3 : Value) (v4 : Value) (v5 : Value) (v6 : Value) (v7 : Value) (v8 : Value) (v9 : Value) (v10 : Value) (v11 : Value) (w' : World) (b0 b1 b2 b3 b4 b5 b6 b7 b8 b9 b10 b11 b12 b13 b14 : Bool) (x41 x42 x43 x44 x45 x46 x47 x48 x49 x50 x51 x52 x53 x9 : Value) : Prop where
  cs : b14 = true → b0 = true ∧ b1 = true ∧ b2 = true ∧ b3 = true ∧ b4 = true ∧ b5 = true ∧ b6 = true ∧ b7 = true ∧ b8 = true ∧ b9 = true ∧ b10 = true ∧ b11 = true ∧ b12 = true ∧ b13 = true ∧ True
  gb : Below W0.heap.size W0 w'
  f0 : b0 = true → x41 = v0
  f1 : b1 = true → x42 = v1
  f2 : b2 = true → x43 = v2
  f3 : b3 = true → x44 = v3
  f4 : b4 = true → x45 = v4
  f5 : b5 = true → x46 = v5
  f6 : b6 = true → x47 = v6
  f7 : b7 = true → x48 = v7
  f8 : b8 = true → x49 = v0
  f9 : b9 = true → x50 = v8
  f10 : b10 = true → x51 = v9
  f11 : b11 = true → x52 = v10
  f12 : b12 = true → x53 = v11
  f13 : b13 = true → ∃ N, x9 = .pointer (some ⟨N, 0, none⟩) ∧ W0.heap.size ≤ N ∧ (b14 = false → w'.heap[N]? = some (.cells Z 46 (0, 0))) ∧ (b14 = true → w'.heap[N]? = some (.cells C 46 (0, 0)))
theorem Rpl.below {W0 : World} {Z C : Array Value} {v0 : Value} {v1 : Value} {v2 : Value} {v3 : Value} {v4 : Value} {v5 : Value} {v6 : Value} {v7 : Value} {v8 : Value} {v9 : Value} {v10 : Value} {v11 : Value} {w' w9 : World} {b0 b1 b2 b3 b4 b5 b6 b7 b8 b9 b10 b11 b12 b13 b14 : Bool} {x41 x42 x43 x44 x45 x46 x47 x48 x49 x50 x51 x52 x53 x9 : Value} (h : Rpl W0 Z C v0 v1 v2 v3 v4 v5 v6 v7 v8 v9 v10 v11 w' b0 b1 b2 b3 b4 b5 b6 b7 b8 b9 b10 b11 b12 b13 b14 x41 x42 x43 x44 x45 x46 x47 x48 x49 x50 x51 x52 x53 x9) (hb : Below w'.heap.size w' w9) : Rpl W0 Z C v0 v1 v2 v3 v4 v5 v6 v7 v8 v9 v10 v11 w9 b0 b1 b2 b3 b4 b5 b6 b7 b8 b9 b10 b11 b12 b13 b14 x41 x42 x43 x44 x45 x46 x47 x48 x49 x50 x51 x52 x53 x9 :=
  ⟨h.cs, h.gb.trans (hb.mono h.gb.size), h.f0, h.f1, h.f2, h.f3, h.f4, h.f5, h.f6, h.f7, h.f8, h.f9, h.f10, h.f11, h.f12, fun g => (h.f13 g).imp fun N k => ⟨k.1, k.2.1, fun s => row_below (k.2.2.1 s) hb, fun s => row_below (k.2.2.2 s) hb⟩⟩
set_option maxRecDepth 40000 in
set_option maxHeartbeats 16000000 in
theorem spec_plan (t : Tb) (a : Ad) (na : Option Addr) (n nc : Nat) (zs : List Int) (w : World) (hm : TM 0 w t a) (hw : TW t a) (hs : TS a) (hns : GSeg 1 w na n (inX zs)) (hnl : zs.length = n) (hnb : n ≤ 1048576) :
    Calls Tryz.prog 9 #[tbV t a, .slice na n nc] w fun e w' => ∃ R ar q, e = .returned (.tuple #[tbV R ar, .bool q]) ∧ PlA t zs R q ∧ Below w.heap.size w w' ∧ KT w.heap.size w'.heap.size w' R ar ∧ TW R ar ∧ TS ar := by
  obtain ⟨q, hq⟩ := told (Sd t)
  have HB2 : Hid (Below w.heap.size w ((w.alloc (.cells (tbA t a) 33)).alloc (.cells #[.int .i64 0, .int .i64 0, .int .i64 0, .int .i64 0, .int .i64 0, .int .i64 0, .int .i64 0, .int .i64 0, .int .i64 0, .int .i64 0, .int .i64 0, .int .i64 0, .int .i64 0, .int .i64 0, .int .i64 0, .slice none 0 0, .slice none 0 0, .slice none 0 0, .slice none 0 0] 33))) := ((Below.refl _ _).alloc (Nat.le_refl _) _).alloc (by simp) _
  have HX2 : Hid (TBx ((w.alloc (.cells (tbA t a) 33)).alloc (.cells #[.int .i64 0, .int .i64 0, .int .i64 0, .int .i64 0, .int .i64 0, .int .i64 0, .int .i64 0, .int .i64 0, .int .i64 0, .int .i64 0, .int .i64 0, .int .i64 0, .int .i64 0, .int .i64 0, .int .i64 0, .slice none 0 0, .slice none 0 0, .slice none 0 0, .slice none 0 0] 33)) w.heap.size t a) := (TBx.new w t a _ rfl).below ((Below.refl _ _).alloc (Nat.le_refl _) _)
  have HR2 : Hid (((w.alloc (.cells (tbA t a) 33)).alloc (.cells #[.int .i64 0, .int .i64 0, .int .i64 0, .int .i64 0, .int .i64 0, .int .i64 0, .int .i64 0, .int .i64 0, .int .i64 0, .int .i64 0, .int .i64 0, .int .i64 0, .int .i64 0, .int .i64 0, .int .i64 0, .slice none 0 0, .slice none 0 0, .slice none 0 0, .slice none 0 0] 33)).heap[w.heap.size + 1]? = some (.cells #[.int .i64 0, .int .i64 0, .int .i64 0, .int .i64 0, .int .i64 0, .int .i64 0, .int .i64 0, .int .i64 0, .int .i64 0, .int .i64 0, .int .i64 0, .int .i64 0, .int .i64 0, .int .i64 0, .int .i64 0, .slice none 0 0, .slice none 0 0, .slice none 0 0, .slice none 0 0] 33 (0, 0))) := new_row (w.alloc (.cells (tbA t a) 33)) _ _ _ (by simp)
  have HSP : Hid (Calls Tryz.prog 31 #[tbV t a] ((w.alloc (.cells (tbA t a) 33)).alloc (.cells #[.int .i64 0, .int .i64 0, .int .i64 0, .int .i64 0, .int .i64 0, .int .i64 0, .int .i64 0, .int .i64 0, .int .i64 0, .int .i64 0, .int .i64 0, .int .i64 0, .int .i64 0, .int .i64 0, .int .i64 0, .slice none 0 0, .slice none 0 0, .slice none 0 0, .slice none 0 0] 33)) fun e w' => e = .returned (.bool q) ∧ Below ((w.alloc (.cells (tbA t a) 33)).alloc (.cells #[.int .i64 0, .int .i64 0, .int .i64 0, .int .i64 0, .int .i64 0, .int .i64 0, .int .i64 0, .int .i64 0, .int .i64 0, .int .i64 0, .int .i64 0, .int .i64 0, .int .i64 0, .int .i64 0, .int .i64 0, .slice none 0 0, .slice none 0 0, .slice none 0 0, .slice none 0 0] 33)).heap.size ((w.alloc (.cells (tbA t a) 33)).alloc (.cells #[.int .i64 0, .int .i64 0, .int .i64 0, .int .i64 0, .int .i64 0, .int .i64 0, .int .i64 0, .int .i64 0, .int .i64 0, .int .i64 0, .int .i64 0, .int .i64 0, .int .i64 0, .int .i64 0, .int .i64 0, .slice none 0 0, .slice none 0 0, .slice none 0 0, .slice none 0 0] 33)) w') := spec_sound t a q _ (hm.below HB2.out) hw hs hq
  have HL : Hid (t.ps.length = a.pn ∧ zs.length = n) := ⟨hw.pl, hnl⟩
  have HCP : Hid (∀ (X : World) (za : Option Addr) (zc : Nat) (zs : List slT), Below w.heap.size w X → GSeg 3 X za zs.length (slX zs) → zs.length ≤ 1048576 → (∀ i, i < zs.length → (zs.getD i sl0).2.1 ≤ 9223372036854775807 ∧ -9223372036854775808 ≤ (zs.getD i sl0).2.1) → Calls Tryz.prog 33 #[tbV t a, .slice za zs.length zc] X fun e w' => ∃ a', e = .returned (tbV { t with ss := zs } a') ∧ Below X.heap.size X w' ∧ KT X.heap.size w'.heap.size w' { t with ss := zs } a' ∧ TW { t with ss := zs } a' ∧ TS a') := fun X za zc zs hX hz hn2 hb => (spec_cp t a za zc zs.length zs X (hm.below hX) hw hs hz rfl hn2 hb).mono fun e w' ⟨a', h1, h2, h3, h4, h5, _⟩ => ⟨a', h1, h2, h3, h4, h5⟩
  have HNS : Hid (∀ X, Below w.heap.size w X → GSeg 1 X na n (inX zs)) := fun X hX => hns.below hX
  have HQ : Hid (q = true ↔ Sd t) := hq
  clear hq hm hw hs hns hnl
  obtain ⟨iS, hi1, hi2, hi3, hi4⟩ := sli
  have HIS : Hid (Tryz.prog.info? 46 = some iS ∧ iS.zero = some (.agg #[.int .i64 0, .int .i64 0, .int .i64 0]) ∧ iS.size = 3 ∧ iS.bytes = 24) := ⟨hi1, hi2, hi3, hi4⟩
  clear hi1 hi2 hi3 hi4
  go_enter Tryz.func9, Tryz.ntmps9
  go_wp2_with (first | (refine wpList_load_row rfl 33 (.tmp 2) rfl w.heap.size rfl 33 (tbA t a) (0, 0) _ HX2.out Tryz.underlying33 rfl (by kernel_rfl) ?_) | fail)
  refine Calls.mono HSP.out ?_
  rintro e w1 ⟨rfl, hb1⟩
  have HB1 : Hid (Below w.heap.size w w1) := HB2.out.trans (hb1.mono HB2.out.size)
  have HX1 : Hid (TBx w1 w.heap.size t a) := HX2.out.below hb1
  have HR1 : Hid (w1.heap[w.heap.size + 1]? = some (.cells #[.int .i64 0, .int .i64 0, .int .i64 0, .int .i64 0, .int .i64 0, .int .i64 0, .int .i64 0, .int .i64 0, .int .i64 0, .int .i64 0, .int .i64 0, .int .i64 0, .int .i64 0, .int .i64 0, .int .i64 0, .slice none 0 0, .slice none 0 0, .slice none 0 0, .slice none 0 0] 33 (0, 0))) := row_below HR2.out hb1
  have k15 : w1.cell? ⟨w.heap.size, 15, none⟩ = some (.slice a.pa a.pn a.pc) := HX1.out.cell 15 rfl
  clear hb1 HB2 HX2 HR2 HSP
  cases q
  · have HNO : Hid (¬ PlOK t zs) := fun h => absurd (HQ.out.2 h.1) (by simp)
    have HRZ : Hid (w1.heap[w.heap.size + 1]? = some (.cells #[.int .i64 0, .int .i64 0, .int .i64 0, .int .i64 0, .int .i64 0, .int .i64 0, .int .i64 0, .int .i64 0, .int .i64 0, .int .i64 0, .int .i64 0, .int .i64 0, .int .i64 0, .int .i64 0, .int .i64 0, .slice none 0 0, .slice none 0 0, .slice none 0 0, .slice none 0 0] 33 (0, 0))) := HR1.out
    have HBZ : Hid (Below w.heap.size w w1) := HB1.out
    clear HQ HX1 k15 HR1 HB1 HCP HNS
    go_wp2_with (first | (refine wpList_store_row rfl 33 (.tmp 4) (.tmp 21) rfl (w.heap.size + 1) (#[.int .i64 0, .int .i64 0, .int .i64 0, .int .i64 0, .int .i64 0, .int .i64 0, .int .i64 0, .int .i64 0, .int .i64 0, .int .i64 0, .int .i64 0, .int .i64 0, .int .i64 0, .int .i64 0, .int .i64 0, .slice none 0 0, .slice none 0 0, .slice none 0 0, .slice none 0 0]) rfl rfl 33 (#[.int .i64 0, .int .i64 0, .int .i64 0, .int .i64 0, .int .i64 0, .int .i64 0, .int .i64 0, .int .i64 0, .int .i64 0, .int .i64 0, .int .i64 0, .int .i64 0, .int .i64 0, .int .i64 0, .int .i64 0, .slice none 0 0, .slice none 0 0, .slice none 0 0, .slice none 0 0]) HRZ.out (by kernel_rfl) rfl (by simp [Value.oneCell']) ?_) | fail)
    first
      | exact bodyPost_ret (v := .tuple #[tbV tz az, .bool false]) (res_spn (setRow_heap _ _ _ _ _ _ HRZ.out) rfl rfl rfl) rfl ⟨tz, az, false, rfl, Or.inl ⟨HNO.out, rfl, rfl⟩, below_setRow HBZ.out (Nat.le_succ _) _, kt_zero _ _ _, tw_zero, ts_zero⟩
      | exact bodyPost_ret (v := .tuple #[tbV tz az, .bool false]) (res_spn (setRow_heap _ _ _ _ _ _ HRZ.out) rfl rfl rfl) rfl ⟨tz, az, Or.inl ⟨rfl, Or.inl ⟨HNO.out, rfl, rfl⟩, below_setRow HBZ.out (Nat.le_succ _) _, kt_zero _ _ _, tw_zero, ts_zero⟩⟩
  have HSD : Hid (Sd t) := HQ.out.1 rfl
  clear HQ
  by_cases hnp : n = a.pn
  rotate_left
  · have hne : ((n : Int) != (a.pn : Int)) = true := by simp; omega
    have HNO : Hid (¬ PlOK t zs) := fun h => hnp (by have h1 := h.2.1; have h2 := HL.out; omega)
    have HRZ : Hid (w1.heap[w.heap.size + 1]? = some (.cells #[.int .i64 0, .int .i64 0, .int .i64 0, .int .i64 0, .int .i64 0, .int .i64 0, .int .i64 0, .int .i64 0, .int .i64 0, .int .i64 0, .int .i64 0, .int .i64 0, .int .i64 0, .int .i64 0, .int .i64 0, .slice none 0 0, .slice none 0 0, .slice none 0 0, .slice none 0 0] 33 (0, 0))) := HR1.out
    have HBZ : Hid (Below w.heap.size w w1) := HB1.out
    clear HX1 HR1 HB1 HCP HNS hnp
    go_wp2_with (first | (refine wpList_store_row rfl 33 (.tmp 4) (.tmp 21) rfl (w.heap.size + 1) (#[.int .i64 0, .int .i64 0, .int .i64 0, .int .i64 0, .int .i64 0, .int .i64 0, .int .i64 0, .int .i64 0, .int .i64 0, .int .i64 0, .int .i64 0, .int .i64 0, .int .i64 0, .int .i64 0, .int .i64 0, .slice none 0 0, .slice none 0 0, .slice none 0 0, .slice none 0 0]) rfl rfl 33 (#[.int .i64 0, .int .i64 0, .int .i64 0, .int .i64 0, .int .i64 0, .int .i64 0, .int .i64 0, .int .i64 0, .int .i64 0, .int .i64 0, .int .i64 0, .int .i64 0, .int .i64 0, .int .i64 0, .int .i64 0, .slice none 0 0, .slice none 0 0, .slice none 0 0, .slice none 0 0]) HRZ.out (by kernel_rfl) rfl (by simp [Value.oneCell']) ?_) | fail)
    first
      | exact bodyPost_ret (v := .tuple #[tbV tz az, .bool false]) (res_spn (setRow_heap _ _ _ _ _ _ HRZ.out) rfl rfl rfl) rfl ⟨tz, az, false, rfl, Or.inl ⟨HNO.out, rfl, rfl⟩, below_setRow HBZ.out (Nat.le_succ _) _, kt_zero _ _ _, tw_zero, ts_zero⟩
      | exact bodyPost_ret (v := .tuple #[tbV tz az, .bool false]) (res_spn (setRow_heap _ _ _ _ _ _ HRZ.out) rfl rfl rfl) rfl ⟨tz, az, Or.inl ⟨rfl, Or.inl ⟨HNO.out, rfl, rfl⟩, below_setRow HBZ.out (Nat.le_succ _) _, kt_zero _ _ _, tw_zero, ts_zero⟩⟩
  have hne : ((n : Int) != (a.pn : Int)) = false := by simp; omega
  have h8 : 1 ≤ t.ps.length ∧ t.ps.length ≤ 6 := HSD.out 8 (by omega)
  have hn6 : 1 ≤ n ∧ n ≤ 6 := by have h2 := HL.out; omega
  have HPP : Hid ((1 ≤ t.pad ∧ t.pad ≤ 5000) ∧ (1 ≤ t.grd ∧ t.grd ≤ 5000) ∧ (1 ≤ t.maj ∧ t.maj ≤ 5000) ∧ zs.length = t.ps.length ∧ zs.length = n ∧ 1 ≤ n ∧ n ≤ 6) := ⟨HSD.out 4 (by omega), HSD.out 5 (by omega), HSD.out 6 (by omega), by have h2 := HL.out; omega, HL.out.2, hn6.1, hn6.2⟩
  obtain ⟨b1, o1, hna, _, _⟩ := (HNS.out w1 HB1.out).at 0 (by omega)
  have HNC : Hid (∀ X, Below w.heap.size w X → ∀ m, m < n → X.cell? ⟨b1, o1 + m, none⟩ = some (.int .i64 (zs.getD m 0))) := fun X hX m hm => by
    obtain ⟨b9, o9, h9, _, p9⟩ := (HNS.out X hX).at m hm
    rw [hna] at h9
    injection h9 with e
    injection e with e1 e2
    subst e1 e2
    rw [Nat.mul_one] at p9
    exact in_cell p9
  subst hna
  have HOW0 : Hid ((w1.alloc (.cells #[] 46)).ownsRow w1.heap.size 46 3 (.slice (some ⟨w1.heap.size, 0, none⟩) 0 0) 0 []) := own_lit0 w1 _ 3
  have hbL : Below w1.heap.size w1 (w1.alloc (.cells #[] 46)) := (Below.refl _ _).alloc (Nat.le_refl _) _
  have HBL : Hid (Below w.heap.size w (w1.alloc (.cells #[] 46))) := HB1.out.trans (hbL.mono HB1.out.size)
  have HXL : Hid (TBx (w1.alloc (.cells #[] 46)) w.heap.size t a) := HX1.out.below hbL
  have HRLz : Hid ((w1.alloc (.cells #[] 46)).heap[w.heap.size + 1]? = some (.cells #[.int .i64 0, .int .i64 0, .int .i64 0, .int .i64 0, .int .i64 0, .int .i64 0, .int .i64 0, .int .i64 0, .int .i64 0, .int .i64 0, .int .i64 0, .int .i64 0, .int .i64 0, .int .i64 0, .int .i64 0, .slice none 0 0, .slice none 0 0, .slice none 0 0, .slice none 0 0] 33 (0, 0))) := row_below HR1.out hbL
  have HLL : Hid (w1.heap.size < (w1.alloc (.cells #[] 46)).heap.size) := by show _ < _; simp
  have HLB0 : Hid (w.heap.size + 1 < w1.heap.size) := (Array.getElem?_eq_some_iff.1 HR1.out).1
  clear hbL HB1 HX1 HR1 HNS hnp h8 HL
  go_wp2
  revert HOW0 HBL HXL HRLz HLL HLB0
  generalize w1.alloc (.cells #[] 46) = W4
  generalize w1.heap.size = LB
  intro HOW0 HBL HXL HRLz HLL HLB0
  clear k15 hne
  go_loopw [6, 7, 8] (fun vs va vi wr => ∃ (m len cap : Nat) (A : Option Addr), m ≤ n ∧ vs = .slice A len cap ∧ va = .int .i64 (plAt t zs m) ∧ vi = .int .i64 (m : Int) ∧ len ≤ cap ∧ len ≤ m ∧ Hid ((plM t zs m).length = len) ∧ Hid (Below w.heap.size w wr) ∧ Hid (TBx wr w.heap.size t a) ∧ Hid (wr.heap[w.heap.size + 1]? = some (.cells #[.int .i64 0, .int .i64 0, .int .i64 0, .int .i64 0, .int .i64 0, .int .i64 0, .int .i64 0, .int .i64 0, .int .i64 0, .int .i64 0, .int .i64 0, .int .i64 0, .int .i64 0, .int .i64 0, .int .i64 0, .slice none 0 0, .slice none 0 0, .slice none 0 0, .slice none 0 0] 33 (0, 0))) ∧ Hid (wr.ownsRow LB 46 3 (.slice A len cap) len (gcat (slX (plM t zs m)) len)) ∧ Hid (LB < wr.heap.size) ∧ Hid (∀ i, i < m → 0 ≤ zs.getD i 0 ∧ zs.getD i 0 ≤ 5000)) (fun _ _ vi _ => n - (intOf vi).toNat)
  case atStart => exact ⟨0, 0, 0, some ⟨LB, 0, none⟩, by omega, rfl, rfl, rfl, by omega, by omega, rfl, HBL.out, HXL.out, HRLz.out, HOW0.out, HLL.out, fun i hi => absurd hi (Nat.not_lt_zero i)⟩
  case round =>
    clear HBL HXL HRLz HOW0 HLL
    obtain ⟨m, len, cap, A, hm, rfl, rfl, rfl, hlc, hlm, HLN, HB, HX, HR, HOW, HLB, HZR⟩ := hrel
    have HPT : Hid (0 ≤ plAt t zs m ∧ plAt t zs m ≤ (m : Int) * 15000) := plAt_rng HPP.out.1 HPP.out.2.1 m HZR.out
    obtain ⟨at0, HAT⟩ : ∃ x, Hid (plAt t zs m = x) := ⟨_, rfl⟩
    rw [HAT.out] at HPT ⊢
    by_cases hlt : m < n
    rotate_left
    · obtain rfl : m = n := by omega
      have hni : ¬ ((m : Int) < (m : Int)) := by omega
      have k14 : wr.cell? ⟨w.heap.size, 14, none⟩ = some (.int .i64 t.maj) := HX.out.cell 14 rfl
      have HRZ : Hid (wr.heap[w.heap.size + 1]? = some (.cells #[.int .i64 0, .int .i64 0, .int .i64 0, .int .i64 0, .int .i64 0, .int .i64 0, .int .i64 0, .int .i64 0, .int .i64 0, .int .i64 0, .int .i64 0, .int .i64 0, .int .i64 0, .int .i64 0, .int .i64 0, .slice none 0 0, .slice none 0 0, .slice none 0 0, .slice none 0 0] 33 (0, 0))) := HR.out
      have HBZ : Hid (Below w.heap.size w wr) := HB.out
      have hzl := HPP.out.2.2.2.2.1
      by_cases h0 : len = 0
      · subst h0
        have HNO : Hid (¬ PlOK t zs) := fun h => by
          have h1 := h.2.2.2.1
          rw [hzl, HLN.out] at h1
          omega
        clear HOW HR HB hzl HX k14
        go_wp2_with (first | (refine wpList_store_row rfl 33 (.tmp 4) (.tmp 71) rfl (w.heap.size + 1) (#[.int .i64 0, .int .i64 0, .int .i64 0, .int .i64 0, .int .i64 0, .int .i64 0, .int .i64 0, .int .i64 0, .int .i64 0, .int .i64 0, .int .i64 0, .int .i64 0, .int .i64 0, .int .i64 0, .int .i64 0, .slice none 0 0, .slice none 0 0, .slice none 0 0, .slice none 0 0]) rfl rfl 33 (#[.int .i64 0, .int .i64 0, .int .i64 0, .int .i64 0, .int .i64 0, .int .i64 0, .int .i64 0, .int .i64 0, .int .i64 0, .int .i64 0, .int .i64 0, .int .i64 0, .int .i64 0, .int .i64 0, .int .i64 0, .slice none 0 0, .slice none 0 0, .slice none 0 0, .slice none 0 0]) HRZ.out (by kernel_rfl) rfl (by simp [Value.oneCell']) ?_) | fail)
        first
          | exact bodyPost_ret (v := .tuple #[tbV tz az, .bool false]) (res_spn (setRow_heap _ _ _ _ _ _ HRZ.out) rfl rfl rfl) rfl ⟨tz, az, false, rfl, Or.inl ⟨HNO.out, rfl, rfl⟩, below_setRow HBZ.out (Nat.le_succ _) _, kt_zero _ _ _, tw_zero, ts_zero⟩
          | exact bodyPost_ret (v := .tuple #[tbV tz az, .bool false]) (res_spn (setRow_heap _ _ _ _ _ _ HRZ.out) rfl rfl rfl) rfl ⟨tz, az, Or.inl ⟨rfl, Or.inl ⟨HNO.out, rfl, rfl⟩, below_setRow HBZ.out (Nat.le_succ _) _, kt_zero _ _ _, tw_zero, ts_zero⟩⟩
      have hl0 : ((len : Int) == 0) = false := by simp; omega
      have hl1 : ¬ ((len : Int) = 0) := by omega
      by_cases hmj : t.maj < at0
      · have hmd : decide (t.maj < at0) = true := decide_eq_true hmj
        have HNO : Hid (¬ PlOK t zs) := fun h => by
          have h1 := h.2.2.2.2
          rw [hzl, HAT.out] at h1
          omega
        clear HOW HR HB hzl HX
        go_wp2_with (first | (refine wpList_store_row rfl 33 (.tmp 4) (.tmp 71) rfl (w.heap.size + 1) (#[.int .i64 0, .int .i64 0, .int .i64 0, .int .i64 0, .int .i64 0, .int .i64 0, .int .i64 0, .int .i64 0, .int .i64 0, .int .i64 0, .int .i64 0, .int .i64 0, .int .i64 0, .int .i64 0, .int .i64 0, .slice none 0 0, .slice none 0 0, .slice none 0 0, .slice none 0 0]) rfl rfl 33 (#[.int .i64 0, .int .i64 0, .int .i64 0, .int .i64 0, .int .i64 0, .int .i64 0, .int .i64 0, .int .i64 0, .int .i64 0, .int .i64 0, .int .i64 0, .int .i64 0, .int .i64 0, .int .i64 0, .int .i64 0, .slice none 0 0, .slice none 0 0, .slice none 0 0, .slice none 0 0]) HRZ.out (by kernel_rfl) rfl (by simp [Value.oneCell']) ?_) | fail)
        first
          | exact bodyPost_ret (v := .tuple #[tbV tz az, .bool false]) (res_spn (setRow_heap _ _ _ _ _ _ HRZ.out) rfl rfl rfl) rfl ⟨tz, az, false, rfl, Or.inl ⟨HNO.out, rfl, rfl⟩, below_setRow HBZ.out (Nat.le_succ _) _, kt_zero _ _ _, tw_zero, ts_zero⟩
          | exact bodyPost_ret (v := .tuple #[tbV tz az, .bool false]) (res_spn (setRow_heap _ _ _ _ _ _ HRZ.out) rfl rfl rfl) rfl ⟨tz, az, Or.inl ⟨rfl, Or.inl ⟨HNO.out, rfl, rfl⟩, below_setRow HBZ.out (Nat.le_succ _) _, kt_zero _ _ _, tw_zero, ts_zero⟩⟩
      have hmd : decide (t.maj < at0) = false := decide_eq_false hmj
      have HOK : Hid (PlOK t zs) := ⟨HSD.out, HPP.out.2.2.2.1, by rw [hzl]; exact HZR.out, by rw [hzl, HLN.out]; omega, by rw [hzl, HAT.out]; omega⟩
      obtain ⟨AN, cap2, eA, hc2, hls⟩ := own_ls (k := 3) (fun j _ => slX_len _ j) HOW.out
      cases eA
      have HZS : Hid (GSeg 3 wr A len (slX (plM t zs m))) := hls.1
      have HZG : Hid (∀ i, i < (plM t zs m).length → ((plM t zs m).getD i sl0).2.1 ≤ 9223372036854775807 ∧ -9223372036854775808 ≤ ((plM t zs m).getD i sl0).2.1) := plM_rng HPP.out.1 HPP.out.2.1 m HPP.out.2.2.2.2.2.2 HZR.out
      have HCL := HCP.out wr A cap (plM t zs m) HB.out (by rw [HLN.out]; exact HZS.out) (by rw [HLN.out]; have := HPP.out.2.2.2.2.2.2; omega) HZG.out
      rw [HLN.out] at HCL
      have HCLH : Hid _ := HCL
      clear HCL HZS HZG hls HOW HCP HRZ HBZ
      go_wp2_with (first | (refine wpList_load_row rfl 33 (.tmp 2) rfl w.heap.size rfl 33 (tbA t a) (0, 0) _ HX.out Tryz.underlying33 rfl (by kernel_rfl) ?_) | fail)
      refine Calls.mono HCLH.out ?_
      rintro e w5 ⟨ar, rfl, hb5, hkt, htw, hts⟩
      have HR5 : Hid (w5.heap[w.heap.size + 1]? = some (.cells #[.int .i64 0, .int .i64 0, .int .i64 0, .int .i64 0, .int .i64 0, .int .i64 0, .int .i64 0, .int .i64 0, .int .i64 0, .int .i64 0, .int .i64 0, .int .i64 0, .int .i64 0, .int .i64 0, .int .i64 0, .slice none 0 0, .slice none 0 0, .slice none 0 0, .slice none 0 0] 33 (0, 0))) := row_below HR.out hb5
      have HB5 : Hid (Below w.heap.size w w5) := HB.out.trans (hb5.mono HB.out.size)
      have hwr : w.heap.size + 1 < wr.heap.size := (Array.getElem?_eq_some_iff.1 HR.out).1
      have HTT : Hid (TW { t with ss := plM t zs m } ar ∧ TS ar) := ⟨htw, hts⟩
      have HRF : Hid ((w5.setRow (w.heap.size + 1) (tbA t ar)).heap[w.heap.size + 1]? = some (.cells (tbA t ar) 33 (0, 0))) := setRow_heap _ _ _ _ _ _ HR5.out
      have hsf : (w5.setRow (w.heap.size + 1) (tbA t ar)).heap.size = w5.heap.size := by simp [World.setRow]
      have hkf := hkt.setRow (B := w.heap.size + 1) (cs := tbA t ar) (Or.inl hwr)
      have HKF : Hid (KT w.heap.size (w5.setRow (w.heap.size + 1) (tbA t ar)).heap.size (w5.setRow (w.heap.size + 1) (tbA t ar)) { t with ss := plM t zs m } ar) := by
        rw [hsf]
        exact ⟨hkf.p.wide (by omega) (Nat.le_refl _), hkf.g, fun j hj => (hkf.v j hj).wide (by omega) (Nat.le_refl _), hkf.d.wide (by omega) (Nat.le_refl _), hkf.c.wide (by omega) (Nat.le_refl _), hkf.s.wide (by omega) (Nat.le_refl _)⟩
      have HFN : Hid (({ t with ss := plM t zs m } : Tb) = { t with ss := plM t zs zs.length }) := by show _ = _; rw [hzl]
      clear hb5 hkt htw hts hkf HX HB HR hzl
      go_wp2_with (first | (refine wpList_store_row rfl 33 (.tmp 4) (.tmp 74) rfl (w.heap.size + 1) (tbA t ar) rfl rfl 33 (#[.int .i64 0, .int .i64 0, .int .i64 0, .int .i64 0, .int .i64 0, .int .i64 0, .int .i64 0, .int .i64 0, .int .i64 0, .int .i64 0, .int .i64 0, .int .i64 0, .int .i64 0, .int .i64 0, .int .i64 0, .slice none 0 0, .slice none 0 0, .slice none 0 0, .slice none 0 0]) HR5.out (by kernel_rfl) rfl (by simp [Value.oneCell']) ?_) | fail)
      first
        | exact bodyPost_ret (v := .tuple #[tbV { t with ss := plM t zs m } ar, .bool true]) (res_spn HRF.out rfl rfl rfl) rfl ⟨{ t with ss := plM t zs m }, ar, true, rfl, Or.inr ⟨HOK.out, HFN.out, rfl⟩, below_setRow HB5.out (Nat.le_succ _) _, HKF.out, HTT.out.1, HTT.out.2⟩
        | exact bodyPost_ret (v := .tuple #[tbV { t with ss := plM t zs m } ar, .bool true]) (res_spn HRF.out rfl rfl rfl) rfl ⟨{ t with ss := plM t zs m }, ar, Or.inr ⟨rfl, Or.inr ⟨HOK.out, HFN.out, rfl⟩, below_setRow HB5.out (Nat.le_succ _) _, HKF.out, HTT.out.1, HTT.out.2⟩⟩
    have hlt' : (m : Int) < (n : Int) := by omega
    have HMN : Hid ((m : Int) < (n : Int)) := hlt'
    obtain ⟨z, HZ⟩ : ∃ z, Hid (zs.getD m 0 = z) := ⟨_, rfl⟩
    have kz : wr.cell? ⟨b1, o1 + m, none⟩ = some (.int .i64 z) := by rw [← HZ.out]; exact HNC.out wr HB.out m hlt
    go_wp2_with fail
    refine Calls.mono (in_any z 0 5000 wr) ?_
    rintro e w2 ⟨rfl, rfl⟩
    by_cases hz5 : 0 ≤ z ∧ z ≤ 5000
    rotate_left
    · have HNO : Hid (¬ PlOK t zs) := fun h => hz5 (by have h1 := h.2.2.1 m (by have := HPP.out.2.2.2.2.1; omega); rw [HZ.out] at h1; exact h1)
      have HRZ : Hid (w2.heap[w.heap.size + 1]? = some (.cells #[.int .i64 0, .int .i64 0, .int .i64 0, .int .i64 0, .int .i64 0, .int .i64 0, .int .i64 0, .int .i64 0, .int .i64 0, .int .i64 0, .int .i64 0, .int .i64 0, .int .i64 0, .int .i64 0, .int .i64 0, .slice none 0 0, .slice none 0 0, .slice none 0 0, .slice none 0 0] 33 (0, 0))) := HR.out
      have HBZ : Hid (Below w.heap.size w w2) := HB.out
      rw [inr_no hz5]
      clear HOW HR HB HX hz5
      go_wp2_with (first | (refine wpList_store_row rfl 33 (.tmp 4) (.tmp 35) rfl (w.heap.size + 1) (#[.int .i64 0, .int .i64 0, .int .i64 0, .int .i64 0, .int .i64 0, .int .i64 0, .int .i64 0, .int .i64 0, .int .i64 0, .int .i64 0, .int .i64 0, .int .i64 0, .int .i64 0, .int .i64 0, .int .i64 0, .slice none 0 0, .slice none 0 0, .slice none 0 0, .slice none 0 0]) rfl rfl 33 (#[.int .i64 0, .int .i64 0, .int .i64 0, .int .i64 0, .int .i64 0, .int .i64 0, .int .i64 0, .int .i64 0, .int .i64 0, .int .i64 0, .int .i64 0, .int .i64 0, .int .i64 0, .int .i64 0, .int .i64 0, .slice none 0 0, .slice none 0 0, .slice none 0 0, .slice none 0 0]) HRZ.out (by kernel_rfl) rfl (by simp [Value.oneCell']) ?_) | fail)
      first
        | exact bodyPost_ret (v := .tuple #[tbV tz az, .bool false]) (res_spn (setRow_heap _ _ _ _ _ _ HRZ.out) rfl rfl rfl) rfl ⟨tz, az, false, rfl, Or.inl ⟨HNO.out, rfl, rfl⟩, below_setRow HBZ.out (Nat.le_succ _) _, kt_zero _ _ _, tw_zero, ts_zero⟩
        | exact bodyPost_ret (v := .tuple #[tbV tz az, .bool false]) (res_spn (setRow_heap _ _ _ _ _ _ HRZ.out) rfl rfl rfl) rfl ⟨tz, az, Or.inl ⟨rfl, Or.inl ⟨HNO.out, rfl, rfl⟩, below_setRow HBZ.out (Nat.le_succ _) _, kt_zero _ _ _, tw_zero, ts_zero⟩⟩
    rw [inr_yes hz5]
    have HZ2 : Hid (∀ i, i < m + 1 → 0 ≤ zs.getD i 0 ∧ zs.getD i 0 ≤ 5000) := fun i hi => by
      by_cases e : i = m
      · subst e
        rw [HZ.out]
        exact hz5
      · exact HZR.out i (by omega)
    by_cases hz0 : 0 < z
    rotate_left
    · have hz0d : decide (0 < z) = false := decide_eq_false hz0
      have HPM : Hid (plM t zs (m + 1) = plM t zs m) := if_neg (by rw [HZ.out]; exact hz0)
      have HPX : Hid (plAt t zs (m + 1) = at0) := (if_neg (by rw [HZ.out]; exact hz0) : plAt t zs (m + 1) = plAt t zs m).trans HAT.out
      have HLN2 : Hid ((plM t zs (m + 1)).length = len) := by show _ = _; rw [HPM.out]; exact HLN.out
      have HO2 : Hid (w2.ownsRow LB 46 3 (.slice A len cap) len (gcat (slX (plM t zs (m + 1))) len)) := by show World.ownsRow _ _ _ _ _ _ _; rw [HPM.out]; exact HOW.out
      clear HOW HLN
      go_wp2_with fail
      go_roundw
      case rel => exact ⟨m + 1, len, cap, A, by omega, rfl, by rw [HPX.out], by first | rfl | go_num, hlc, by omega, HLN2.out, HB.out, HX.out, HR.out, HO2.out, HLB.out, HZ2.out⟩
      case measure => simp [intOf]; omega
    have hz0d : decide (0 < z) = true := decide_eq_true hz0
    have HPM : Hid (plM t zs (m + 1) = plM t zs m ++ [((m : Int), at0, t.pad + t.grd + z)]) := by
      have h : plM t zs (m + 1) = plM t zs m ++ [((m : Int), plAt t zs m, t.pad + t.grd + zs.getD m 0)] := if_pos (by rw [HZ.out]; exact hz0)
      rw [HAT.out, HZ.out] at h
      exact h
    have HPX : Hid (plAt t zs (m + 1) = at0 + (t.pad + t.grd + z)) := by
      have h : plAt t zs (m + 1) = plAt t zs m + (t.pad + t.grd + zs.getD m 0) := if_pos (by rw [HZ.out]; exact hz0)
      rw [HAT.out, HZ.out] at h
      exact h
    have HQC : Hid (∀ X, Below w2.heap.size w2 X → X.cell? ⟨w.heap.size, 12, none⟩ = some (.int .i64 t.pad) ∧ X.cell? ⟨w.heap.size, 13, none⟩ = some (.int .i64 t.grd) ∧ X.cell? ⟨b1, o1 + m, none⟩ = some (.int .i64 z)) := fun X hX => by
      have h1 := HX.out.below hX
      exact ⟨h1.cell 12 rfl, h1.cell 13 rfl, by rw [← HZ.out]; exact HNC.out X (HB.out.trans (hX.mono HB.out.size)) m hlt⟩
    have HWR : Hid (IntKind.i64.wrap (t.pad + t.grd) = t.pad + t.grd ∧ IntKind.i64.wrap (t.pad + t.grd + z) = t.pad + t.grd + z ∧ IntKind.i64.wrap (at0 + (t.pad + t.grd + z)) = at0 + (t.pad + t.grd + z)) := by
      have h1 := HPP.out.1
      have h2 := HPP.out.2.1
      have h3 := HPT.out
      have h4 := HPP.out.2.2.2.2.2.2
      refine ⟨?_, ?_, ?_⟩ <;> (rw [IntKind.wrap_i64]; omega)
    go_wp2_with fail
    refine wp_region_inv (by kernel_rfl) (by kernel_rfl) (fun A ℓ a' w' => ∃ (x41 x42 x43 x44 x45 x46 x47 x48 x49 x50 x51 x52 x53 x9 : Value), a' = ((((((((((((((A.put (some 41) x41).put (some 42) x42).put (some 43) x43).put (some 44) x44).put (some 45) x45).put (some 46) x46).put (some 47) x47).put (some 48) x48).put (some 49) x49).put (some 50) x50).put (some 51) x51).put (some 52) x52).put (some 53) x53).put (some 9) x9) ∧ Rpl (w2) (#[.int .i64 0, .int .i64 0, .int .i64 0]) (#[.int .i64 (m : Int), .int .i64 at0, .int .i64 (t.pad + t.grd + z)]) (.int .i64 (m : Int)) (.int .i64 at0) (.pointer (some ⟨w.heap.size, 12, none⟩)) (.int .i64 t.pad) (.pointer (some ⟨w.heap.size, 13, none⟩)) (.int .i64 t.grd) (.int .i64 (t.pad + t.grd)) (.slice (some ⟨b1, o1, none⟩) n nc) (.pointer (some ⟨b1, o1 + m, none⟩)) (.int .i64 z) (.int .i64 (t.pad + t.grd + z)) (.agg #[.int .i64 (m : Int), .int .i64 at0, .int .i64 (t.pad + t.grd + z)]) w' (ℓ 0) (ℓ 1) (ℓ 2) (ℓ 3) (ℓ 4) (ℓ 5) (ℓ 6) (ℓ 7) (ℓ 8) (ℓ 9) (ℓ 10) (ℓ 11) (ℓ 12) (ℓ 13) (ℓ 14) x41 x42 x43 x44 x45 x46 x47 x48 x49 x50 x51 x52 x53 x9) ?_ ?_ ?_ ?_
    · exact ⟨u41, u42, u43, u44, u45, u46, u47, u48, u49, u50, u51, u52, u53, u9, (by simp only [Act.put, List.setIfInBounds_toArray, List.set_cons_zero, List.set_cons_succ]), ⟨(fun g => by cases g), (Below.refl _ _).drew, (fun g => by cases g), (fun g => by cases g), (fun g => by cases g), (fun g => by cases g), (fun g => by cases g), (fun g => by cases g), (fun g => by cases g), (fun g => by cases g), (fun g => by cases g), (fun g => by cases g), (fun g => by cases g), (fun g => by cases g), (fun g => by cases g), (fun g => by cases g)⟩⟩
    · intro ℓ a' w' hI hall
      obtain ⟨x41, x42, x43, x44, x45, x46, x47, x48, x49, x50, x51, x52, x53, x9, rfl, hr⟩ := hI
      have hall' : ∀ i, i < 15 → ℓ i = true := hall
      obtain rfl := hr.f0 (hall' 0 (by decide))
      obtain rfl := hr.f1 (hall' 1 (by decide))
      obtain rfl := hr.f2 (hall' 2 (by decide))
      obtain rfl := hr.f3 (hall' 3 (by decide))
      obtain rfl := hr.f4 (hall' 4 (by decide))
      obtain rfl := hr.f5 (hall' 5 (by decide))
      obtain rfl := hr.f6 (hall' 6 (by decide))
      obtain rfl := hr.f7 (hall' 7 (by decide))
      obtain rfl := hr.f8 (hall' 8 (by decide))
      obtain rfl := hr.f9 (hall' 9 (by decide))
      obtain rfl := hr.f10 (hall' 10 (by decide))
      obtain rfl := hr.f11 (hall' 11 (by decide))
      obtain rfl := hr.f12 (hall' 12 (by decide))
      obtain ⟨N, rfl, hN, _, hrow⟩ := hr.f13 (hall' 13 (by decide))
      have hrow := hrow (hall' 14 (by decide))
      have hgb := hr.gb
      clear hall hall' hr
      simp only [Act.put, List.setIfInBounds_toArray, List.set_cons_zero, List.set_cons_succ]
      have HROW : Hid (w'.heap[N]? = some (.cells #[.int .i64 (m : Int), .int .i64 at0, .int .i64 (t.pad + t.grd + z)] 46 (0, 0))) := hrow
      have HNN : Hid (w2.heap.size ≤ N) := hN
      have HBW : Hid (Below LB w2 w') := hgb.mono (by have := HLB.out; omega)
      have HLW : Hid (LB < w'.heap.size) := by have h1 := hgb.size; have h2 := HLB.out; show _ < _; omega
      have hgs : w2.heap.size ≤ w'.heap.size := hgb.size
      have HOWL : Hid ((w'.alloc (.cells #[.int .i64 (m : Int), .int .i64 at0, .int .i64 (t.pad + t.grd + z)] 46)).ownsRow LB 46 3 (.slice A len cap) len (gcat (slX (plM t zs m)) len)) := own_far HOW.out (fun q hq => by
        have h := (own_ge HOW.out q hq).2
        exact (((Below.refl w'.heap.size w').alloc (Nat.le_refl _) _).block q (by omega)).trans (hgb.block q h))
      have HNW : Hid (∀ j u, ([.int .i64 (m : Int), .int .i64 at0, .int .i64 (t.pad + t.grd + z)] : List Value)[j]? = some u → (w'.alloc (.cells #[.int .i64 (m : Int), .int .i64 at0, .int .i64 (t.pad + t.grd + z)] 46)).cell? ((⟨w'.heap.size, 0, none⟩ : Addr).add j) = some u) := fun j u hj => (by rw [add_plain]; exact CellsAt.new w' [.int .i64 (m : Int), .int .i64 at0, .int .i64 (t.pad + t.grd + z)] 46 w'.heap.size rfl j u hj)
      have HGC : Hid (gcat (slX (plM t zs (m + 1))) (len + 1) = (gcat (slX (plM t zs m)) len) ++ [.int .i64 (m : Int), .int .i64 at0, .int .i64 (t.pad + t.grd + z)]) := by
        have e := slX_app (plM t zs m) [((m : Int), at0, t.pad + t.grd + z)]
        rw [List.length_append, HLN.out] at e
        show _ = _
        rw [HPM.out]
        exact e
      have HLN2 : Hid ((plM t zs (m + 1)).length = len + 1) := by
        show _ = _
        rw [HPM.out, List.length_append, HLN.out]
        rfl
      have hwa := HWR.out.2.2
      clear hrow hN hgb hgs HQC
      go_wp2_with (first
         | (at_builtin
            refine wpList_append_any rfl (.tmp 54) (.tmp 56) 31 rfl LB 46 iS (.agg #[.int .i64 0, .int .i64 0, .int .i64 0]) 3 24 Tryz.underlying31 HIS.out.1 HIS.out.2.1 HIS.out.2.2.1 HIS.out.2.2.2 rfl (by decide) ((.slice A len cap)) len (gcat (slX (plM t zs m)) len) rfl HOWL.out (some ⟨w'.heap.size, 0, none⟩) 1 1 [.int .i64 (m : Int), .int .i64 at0, .int .i64 (t.pad + t.grd + z)] rfl rfl (fun _ => ⟨_, rfl, HNW.out⟩) (fun u hu => by simp only [List.mem_cons, List.not_mem_nil, or_false] at hu; rcases hu with rfl | rfl | rfl <;> rfl) (by unfold maxLen; omega) (by omega) (by have := HLW.out; simp; omega) ?_
            intro vv w9 ho hg hk2
            rw [← HGC.out] at ho
            obtain ⟨AN, cap2, hvv, hc2, hls⟩ := own_ls (k := 3) (fun j _ => slX_len _ j) ho
            subst hvv
            have hb9 : Below LB (w'.alloc (.cells #[.int .i64 (m : Int), .int .i64 at0, .int .i64 (t.pad + t.grd + z)] 46)) w9 := (Below.refl _ _).grown hg (by have := HLW.out; simp; omega) (fun q hq => (own_ge HOW.out q hq).1)
            have hbA : Below LB w2 w9 := (HBW.out.alloc (by have := HLW.out; omega) _).trans hb9
            have HB9 : Hid (Below w.heap.size w w9) := HB.out.trans (hbA.mono (by have := HLB0.out; omega))
            have HX9 : Hid (TBx w9 w.heap.size t a) := tbx_low HX.out hbA (by have := HLB0.out; omega)
            have HR9 : Hid (w9.heap[w.heap.size + 1]? = some (.cells #[.int .i64 0, .int .i64 0, .int .i64 0, .int .i64 0, .int .i64 0, .int .i64 0, .int .i64 0, .int .i64 0, .int .i64 0, .int .i64 0, .int .i64 0, .int .i64 0, .int .i64 0, .int .i64 0, .int .i64 0, .slice none 0 0, .slice none 0 0, .slice none 0 0, .slice none 0 0] 33 (0, 0))) := (hbA.block _ (by have := HLB0.out; omega)).trans HR.out
            have hrow9 : w9.heap[N]? = some (.cells #[.int .i64 (m : Int), .int .i64 at0, .int .i64 (t.pad + t.grd + z)] 46 (0, 0)) := (hg.block N (by have := (Array.getElem?_eq_some_iff.1 HROW.out).1; simp; omega) (fun e => by have := (own_ge HOW.out N e.symm).2; have := HNN.out; omega)).trans (row_below HROW.out ((Below.refl _ _).alloc (Nat.le_refl _) _))
            have e9 : w9.cell? ⟨N, 2, none⟩ = some (.int .i64 (t.pad + t.grd + z)) := (by simp [World.cell?, hrow9])
            have HO9 : Hid (w9.ownsRow LB 46 3 (.slice AN (len + 1) cap2) (len + 1) (gcat (slX (plM t zs (m + 1))) (len + 1))) := ho
            have HP9 : Hid (LB < w9.heap.size) := (by have := hbA.size; have := HLB.out; show _ < _; omega)
            have HC9 : Hid (len + 1 ≤ cap2) := hc2
            clear ho hg hk2 hb9 hbA hls hc2 hrow9)
         | (refine wpList_load_row rfl 46 (.tmp 9) rfl N rfl 46 (#[.int .i64 (m : Int), .int .i64 at0, .int .i64 (t.pad + t.grd + z)]) (0, 0) _ HROW.out Tryz.underlying46 rfl (by kernel_rfl) ?_)
         | fail)
      go_roundw
      case rel => exact ⟨m + 1, len + 1, cap2, AN, by omega, rfl, by rw [HPX.out], by first | rfl | go_num, HC9.out, by omega, HLN2.out, HB9.out, HX9.out, HR9.out, HO9.out, HP9.out, HZ2.out⟩
      case measure => simp [intOf]; omega
    · intro ℓ a' w' i o hI ho hi hL hdep K hK
      obtain ⟨x41, x42, x43, x44, x45, x46, x47, x48, x49, x50, x51, x52, x53, x9, rfl, hr⟩ := hI
      have hi7 : i < 15 := hi
      have hcs : i = 0 ∨ i = 1 ∨ i = 2 ∨ i = 3 ∨ i = 4 ∨ i = 5 ∨ i = 6 ∨ i = 7 ∨ i = 8 ∨ i = 9 ∨ i = 10 ∨ i = 11 ∨ i = 12 ∨ i = 13 ∨ i = 14 := by omega
      clear hi hi7
      rcases hcs with rfl | rfl | rfl | rfl | rfl | rfl | rfl | rfl | rfl | rfl | rfl | rfl | rfl | rfl | rfl
      · revert hK
        obtain rfl := Option.some.inj ho
        clear hdep ho
        have hgb := hr.gb
        intro hK
        rw [if_pos (by rfl)]
        try simp only [Act.put, List.setIfInBounds_toArray, List.set_cons_zero, List.set_cons_succ]
        go_simp
        exact hK.out _ _ (fun j => if j = 0 then true else ℓ j) ⟨(.int .i64 (m : Int)), x42, x43, x44, x45, x46, x47, x48, x49, x50, x51, x52, x53, x9, (by simp only [Act.put, List.setIfInBounds_toArray, List.set_cons_zero, List.set_cons_succ]), ⟨(fun g => ⟨rfl, (hr.cs g).2.1, (hr.cs g).2.2.1, (hr.cs g).2.2.2.1, (hr.cs g).2.2.2.2.1, (hr.cs g).2.2.2.2.2.1, (hr.cs g).2.2.2.2.2.2.1, (hr.cs g).2.2.2.2.2.2.2.1, (hr.cs g).2.2.2.2.2.2.2.2.1, (hr.cs g).2.2.2.2.2.2.2.2.2.1, (hr.cs g).2.2.2.2.2.2.2.2.2.2.1, (hr.cs g).2.2.2.2.2.2.2.2.2.2.2.1, (hr.cs g).2.2.2.2.2.2.2.2.2.2.2.2.1, (hr.cs g).2.2.2.2.2.2.2.2.2.2.2.2.2.1, trivial⟩), hr.gb, (fun _ => rfl), hr.f1, hr.f2, hr.f3, hr.f4, hr.f5, hr.f6, hr.f7, hr.f8, hr.f9, hr.f10, hr.f11, hr.f12, hr.f13⟩⟩ (if_pos rfl) (fun j hj => if_neg hj)
      · revert hK
        obtain rfl := Option.some.inj ho
        clear hdep ho
        have hgb := hr.gb
        intro hK
        rw [if_pos (by rfl)]
        try simp only [Act.put, List.setIfInBounds_toArray, List.set_cons_zero, List.set_cons_succ]
        go_simp
        exact hK.out _ _ (fun j => if j = 1 then true else ℓ j) ⟨x41, (.int .i64 at0), x43, x44, x45, x46, x47, x48, x49, x50, x51, x52, x53, x9, (by simp only [Act.put, List.setIfInBounds_toArray, List.set_cons_zero, List.set_cons_succ]), ⟨(fun g => ⟨(hr.cs g).1, rfl, (hr.cs g).2.2.1, (hr.cs g).2.2.2.1, (hr.cs g).2.2.2.2.1, (hr.cs g).2.2.2.2.2.1, (hr.cs g).2.2.2.2.2.2.1, (hr.cs g).2.2.2.2.2.2.2.1, (hr.cs g).2.2.2.2.2.2.2.2.1, (hr.cs g).2.2.2.2.2.2.2.2.2.1, (hr.cs g).2.2.2.2.2.2.2.2.2.2.1, (hr.cs g).2.2.2.2.2.2.2.2.2.2.2.1, (hr.cs g).2.2.2.2.2.2.2.2.2.2.2.2.1, (hr.cs g).2.2.2.2.2.2.2.2.2.2.2.2.2.1, trivial⟩), hr.gb, hr.f0, (fun _ => rfl), hr.f2, hr.f3, hr.f4, hr.f5, hr.f6, hr.f7, hr.f8, hr.f9, hr.f10, hr.f11, hr.f12, hr.f13⟩⟩ (if_pos rfl) (fun j hj => if_neg hj)
      · revert hK
        obtain rfl := Option.some.inj ho
        clear hdep ho
        have hgb := hr.gb
        intro hK
        rw [if_pos (by rfl)]
        try simp only [Act.put, List.setIfInBounds_toArray, List.set_cons_zero, List.set_cons_succ]
        go_simp
        exact hK.out _ _ (fun j => if j = 2 then true else ℓ j) ⟨x41, x42, (.pointer (some ⟨w.heap.size, 12, none⟩)), x44, x45, x46, x47, x48, x49, x50, x51, x52, x53, x9, (by simp only [Act.put, List.setIfInBounds_toArray, List.set_cons_zero, List.set_cons_succ]), ⟨(fun g => ⟨(hr.cs g).1, (hr.cs g).2.1, rfl, (hr.cs g).2.2.2.1, (hr.cs g).2.2.2.2.1, (hr.cs g).2.2.2.2.2.1, (hr.cs g).2.2.2.2.2.2.1, (hr.cs g).2.2.2.2.2.2.2.1, (hr.cs g).2.2.2.2.2.2.2.2.1, (hr.cs g).2.2.2.2.2.2.2.2.2.1, (hr.cs g).2.2.2.2.2.2.2.2.2.2.1, (hr.cs g).2.2.2.2.2.2.2.2.2.2.2.1, (hr.cs g).2.2.2.2.2.2.2.2.2.2.2.2.1, (hr.cs g).2.2.2.2.2.2.2.2.2.2.2.2.2.1, trivial⟩), hr.gb, hr.f0, hr.f1, (fun _ => rfl), hr.f3, hr.f4, hr.f5, hr.f6, hr.f7, hr.f8, hr.f9, hr.f10, hr.f11, hr.f12, hr.f13⟩⟩ (if_pos rfl) (fun j hj => if_neg hj)
      · revert hK
        obtain rfl := Option.some.inj ho
        have g2 : ℓ 2 = true := hdep { on := 2, ground := Ground.data } (by simp) rfl
        clear hdep ho
        have hl : ℓ 14 = false := by
          cases h7 : ℓ 14
          · rfl
          · have := (hr.cs h7).2.2.2.1; rw [this] at hL; cases hL
        have hgb := hr.gb
        obtain rfl := hr.f2 g2
        intro hK
        rw [if_pos (by rfl)]
        try simp only [Act.put, List.setIfInBounds_toArray, List.set_cons_zero, List.set_cons_succ]
        have cc := (HQC.out _ hgb).1
        go_simp
        exact hK.out _ _ (fun j => if j = 3 then true else ℓ j) ⟨x41, x42, (.pointer (some ⟨w.heap.size, 12, none⟩)), (.int .i64 t.pad), x45, x46, x47, x48, x49, x50, x51, x52, x53, x9, (by simp only [Act.put, List.setIfInBounds_toArray, List.set_cons_zero, List.set_cons_succ]), ⟨(fun g => ⟨(hr.cs g).1, (hr.cs g).2.1, (hr.cs g).2.2.1, rfl, (hr.cs g).2.2.2.2.1, (hr.cs g).2.2.2.2.2.1, (hr.cs g).2.2.2.2.2.2.1, (hr.cs g).2.2.2.2.2.2.2.1, (hr.cs g).2.2.2.2.2.2.2.2.1, (hr.cs g).2.2.2.2.2.2.2.2.2.1, (hr.cs g).2.2.2.2.2.2.2.2.2.2.1, (hr.cs g).2.2.2.2.2.2.2.2.2.2.2.1, (hr.cs g).2.2.2.2.2.2.2.2.2.2.2.2.1, (hr.cs g).2.2.2.2.2.2.2.2.2.2.2.2.2.1, trivial⟩), hr.gb, hr.f0, hr.f1, hr.f2, (fun _ => rfl), hr.f4, hr.f5, hr.f6, hr.f7, hr.f8, hr.f9, hr.f10, hr.f11, hr.f12, hr.f13⟩⟩ (if_pos rfl) (fun j hj => if_neg hj)
      · revert hK
        obtain rfl := Option.some.inj ho
        clear hdep ho
        have hgb := hr.gb
        intro hK
        rw [if_pos (by rfl)]
        try simp only [Act.put, List.setIfInBounds_toArray, List.set_cons_zero, List.set_cons_succ]
        go_simp
        exact hK.out _ _ (fun j => if j = 4 then true else ℓ j) ⟨x41, x42, x43, x44, (.pointer (some ⟨w.heap.size, 13, none⟩)), x46, x47, x48, x49, x50, x51, x52, x53, x9, (by simp only [Act.put, List.setIfInBounds_toArray, List.set_cons_zero, List.set_cons_succ]), ⟨(fun g => ⟨(hr.cs g).1, (hr.cs g).2.1, (hr.cs g).2.2.1, (hr.cs g).2.2.2.1, rfl, (hr.cs g).2.2.2.2.2.1, (hr.cs g).2.2.2.2.2.2.1, (hr.cs g).2.2.2.2.2.2.2.1, (hr.cs g).2.2.2.2.2.2.2.2.1, (hr.cs g).2.2.2.2.2.2.2.2.2.1, (hr.cs g).2.2.2.2.2.2.2.2.2.2.1, (hr.cs g).2.2.2.2.2.2.2.2.2.2.2.1, (hr.cs g).2.2.2.2.2.2.2.2.2.2.2.2.1, (hr.cs g).2.2.2.2.2.2.2.2.2.2.2.2.2.1, trivial⟩), hr.gb, hr.f0, hr.f1, hr.f2, hr.f3, (fun _ => rfl), hr.f5, hr.f6, hr.f7, hr.f8, hr.f9, hr.f10, hr.f11, hr.f12, hr.f13⟩⟩ (if_pos rfl) (fun j hj => if_neg hj)
      · revert hK
        obtain rfl := Option.some.inj ho
        have g4 : ℓ 4 = true := hdep { on := 4, ground := Ground.data } (by simp) rfl
        clear hdep ho
        have hl : ℓ 14 = false := by
          cases h7 : ℓ 14
          · rfl
          · have := (hr.cs h7).2.2.2.2.2.1; rw [this] at hL; cases hL
        have hgb := hr.gb
        obtain rfl := hr.f4 g4
        intro hK
        rw [if_pos (by rfl)]
        try simp only [Act.put, List.setIfInBounds_toArray, List.set_cons_zero, List.set_cons_succ]
        have cc := (HQC.out _ hgb).2.1
        go_simp
        exact hK.out _ _ (fun j => if j = 5 then true else ℓ j) ⟨x41, x42, x43, x44, (.pointer (some ⟨w.heap.size, 13, none⟩)), (.int .i64 t.grd), x47, x48, x49, x50, x51, x52, x53, x9, (by simp only [Act.put, List.setIfInBounds_toArray, List.set_cons_zero, List.set_cons_succ]), ⟨(fun g => ⟨(hr.cs g).1, (hr.cs g).2.1, (hr.cs g).2.2.1, (hr.cs g).2.2.2.1, (hr.cs g).2.2.2.2.1, rfl, (hr.cs g).2.2.2.2.2.2.1, (hr.cs g).2.2.2.2.2.2.2.1, (hr.cs g).2.2.2.2.2.2.2.2.1, (hr.cs g).2.2.2.2.2.2.2.2.2.1, (hr.cs g).2.2.2.2.2.2.2.2.2.2.1, (hr.cs g).2.2.2.2.2.2.2.2.2.2.2.1, (hr.cs g).2.2.2.2.2.2.2.2.2.2.2.2.1, (hr.cs g).2.2.2.2.2.2.2.2.2.2.2.2.2.1, trivial⟩), hr.gb, hr.f0, hr.f1, hr.f2, hr.f3, hr.f4, (fun _ => rfl), hr.f6, hr.f7, hr.f8, hr.f9, hr.f10, hr.f11, hr.f12, hr.f13⟩⟩ (if_pos rfl) (fun j hj => if_neg hj)
      · revert hK
        obtain rfl := Option.some.inj ho
        have g3 : ℓ 3 = true := hdep { on := 3, ground := Ground.data } (by simp) rfl
        have g5 : ℓ 5 = true := hdep { on := 5, ground := Ground.data } (by simp) rfl
        clear hdep ho
        have hgb := hr.gb
        obtain rfl := hr.f3 g3
        obtain rfl := hr.f5 g5
        intro hK
        rw [if_pos (by rfl)]
        try simp only [Act.put, List.setIfInBounds_toArray, List.set_cons_zero, List.set_cons_succ]
        have hwr := HWR.out.1
        go_simp
        exact hK.out _ _ (fun j => if j = 6 then true else ℓ j) ⟨x41, x42, x43, (.int .i64 t.pad), x45, (.int .i64 t.grd), (.int .i64 (t.pad + t.grd)), x48, x49, x50, x51, x52, x53, x9, (by simp only [Act.put, List.setIfInBounds_toArray, List.set_cons_zero, List.set_cons_succ]), ⟨(fun g => ⟨(hr.cs g).1, (hr.cs g).2.1, (hr.cs g).2.2.1, (hr.cs g).2.2.2.1, (hr.cs g).2.2.2.2.1, (hr.cs g).2.2.2.2.2.1, rfl, (hr.cs g).2.2.2.2.2.2.2.1, (hr.cs g).2.2.2.2.2.2.2.2.1, (hr.cs g).2.2.2.2.2.2.2.2.2.1, (hr.cs g).2.2.2.2.2.2.2.2.2.2.1, (hr.cs g).2.2.2.2.2.2.2.2.2.2.2.1, (hr.cs g).2.2.2.2.2.2.2.2.2.2.2.2.1, (hr.cs g).2.2.2.2.2.2.2.2.2.2.2.2.2.1, trivial⟩), hr.gb, hr.f0, hr.f1, hr.f2, hr.f3, hr.f4, hr.f5, (fun _ => rfl), hr.f7, hr.f8, hr.f9, hr.f10, hr.f11, hr.f12, hr.f13⟩⟩ (if_pos rfl) (fun j hj => if_neg hj)
      · revert hK
        obtain rfl := Option.some.inj ho
        clear hdep ho
        have hgb := hr.gb
        intro hK
        rw [if_pos (by rfl)]
        try simp only [Act.put, List.setIfInBounds_toArray, List.set_cons_zero, List.set_cons_succ]
        go_simp
        exact hK.out _ _ (fun j => if j = 7 then true else ℓ j) ⟨x41, x42, x43, x44, x45, x46, x47, (.slice (some ⟨b1, o1, none⟩) n nc), x49, x50, x51, x52, x53, x9, (by simp only [Act.put, List.setIfInBounds_toArray, List.set_cons_zero, List.set_cons_succ]), ⟨(fun g => ⟨(hr.cs g).1, (hr.cs g).2.1, (hr.cs g).2.2.1, (hr.cs g).2.2.2.1, (hr.cs g).2.2.2.2.1, (hr.cs g).2.2.2.2.2.1, (hr.cs g).2.2.2.2.2.2.1, rfl, (hr.cs g).2.2.2.2.2.2.2.2.1, (hr.cs g).2.2.2.2.2.2.2.2.2.1, (hr.cs g).2.2.2.2.2.2.2.2.2.2.1, (hr.cs g).2.2.2.2.2.2.2.2.2.2.2.1, (hr.cs g).2.2.2.2.2.2.2.2.2.2.2.2.1, (hr.cs g).2.2.2.2.2.2.2.2.2.2.2.2.2.1, trivial⟩), hr.gb, hr.f0, hr.f1, hr.f2, hr.f3, hr.f4, hr.f5, hr.f6, (fun _ => rfl), hr.f8, hr.f9, hr.f10, hr.f11, hr.f12, hr.f13⟩⟩ (if_pos rfl) (fun j hj => if_neg hj)
      · revert hK
        obtain rfl := Option.some.inj ho
        clear hdep ho
        have hgb := hr.gb
        intro hK
        rw [if_pos (by rfl)]
        try simp only [Act.put, List.setIfInBounds_toArray, List.set_cons_zero, List.set_cons_succ]
        go_simp
        exact hK.out _ _ (fun j => if j = 8 then true else ℓ j) ⟨x41, x42, x43, x44, x45, x46, x47, x48, (.int .i64 (m : Int)), x50, x51, x52, x53, x9, (by simp only [Act.put, List.setIfInBounds_toArray, List.set_cons_zero, List.set_cons_succ]), ⟨(fun g => ⟨(hr.cs g).1, (hr.cs g).2.1, (hr.cs g).2.2.1, (hr.cs g).2.2.2.1, (hr.cs g).2.2.2.2.1, (hr.cs g).2.2.2.2.2.1, (hr.cs g).2.2.2.2.2.2.1, (hr.cs g).2.2.2.2.2.2.2.1, rfl, (hr.cs g).2.2.2.2.2.2.2.2.2.1, (hr.cs g).2.2.2.2.2.2.2.2.2.2.1, (hr.cs g).2.2.2.2.2.2.2.2.2.2.2.1, (hr.cs g).2.2.2.2.2.2.2.2.2.2.2.2.1, (hr.cs g).2.2.2.2.2.2.2.2.2.2.2.2.2.1, trivial⟩), hr.gb, hr.f0, hr.f1, hr.f2, hr.f3, hr.f4, hr.f5, hr.f6, hr.f7, (fun _ => rfl), hr.f9, hr.f10, hr.f11, hr.f12, hr.f13⟩⟩ (if_pos rfl) (fun j hj => if_neg hj)
      · revert hK
        obtain rfl := Option.some.inj ho
        have g7 : ℓ 7 = true := hdep { on := 7, ground := Ground.data } (by simp) rfl
        have g8 : ℓ 8 = true := hdep { on := 8, ground := Ground.data } (by simp) rfl
        clear hdep ho
        have hgb := hr.gb
        obtain rfl := hr.f7 g7
        obtain rfl := hr.f8 g8
        intro hK
        rw [if_pos (by rfl)]
        try simp only [Act.put, List.setIfInBounds_toArray, List.set_cons_zero, List.set_cons_succ]
        have hmn := HMN.out
        go_simp
        exact hK.out _ _ (fun j => if j = 9 then true else ℓ j) ⟨x41, x42, x43, x44, x45, x46, x47, (.slice (some ⟨b1, o1, none⟩) n nc), (.int .i64 (m : Int)), (.pointer (some ⟨b1, o1 + m, none⟩)), x51, x52, x53, x9, (by simp only [Act.put, List.setIfInBounds_toArray, List.set_cons_zero, List.set_cons_succ]), ⟨(fun g => ⟨(hr.cs g).1, (hr.cs g).2.1, (hr.cs g).2.2.1, (hr.cs g).2.2.2.1, (hr.cs g).2.2.2.2.1, (hr.cs g).2.2.2.2.2.1, (hr.cs g).2.2.2.2.2.2.1, (hr.cs g).2.2.2.2.2.2.2.1, (hr.cs g).2.2.2.2.2.2.2.2.1, rfl, (hr.cs g).2.2.2.2.2.2.2.2.2.2.1, (hr.cs g).2.2.2.2.2.2.2.2.2.2.2.1, (hr.cs g).2.2.2.2.2.2.2.2.2.2.2.2.1, (hr.cs g).2.2.2.2.2.2.2.2.2.2.2.2.2.1, trivial⟩), hr.gb, hr.f0, hr.f1, hr.f2, hr.f3, hr.f4, hr.f5, hr.f6, hr.f7, hr.f8, (fun _ => rfl), hr.f10, hr.f11, hr.f12, hr.f13⟩⟩ (if_pos rfl) (fun j hj => if_neg hj)
      · revert hK
        obtain rfl := Option.some.inj ho
        have g9 : ℓ 9 = true := hdep { on := 9, ground := Ground.data } (by simp) rfl
        clear hdep ho
        have hl : ℓ 14 = false := by
          cases h7 : ℓ 14
          · rfl
          · have := (hr.cs h7).2.2.2.2.2.2.2.2.2.2.1; rw [this] at hL; cases hL
        have hgb := hr.gb
        obtain rfl := hr.f9 g9
        intro hK
        rw [if_pos (by rfl)]
        try simp only [Act.put, List.setIfInBounds_toArray, List.set_cons_zero, List.set_cons_succ]
        have cc := (HQC.out _ hgb).2.2
        go_simp
        exact hK.out _ _ (fun j => if j = 10 then true else ℓ j) ⟨x41, x42, x43, x44, x45, x46, x47, x48, x49, (.pointer (some ⟨b1, o1 + m, none⟩)), (.int .i64 z), x52, x53, x9, (by simp only [Act.put, List.setIfInBounds_toArray, List.set_cons_zero, List.set_cons_succ]), ⟨(fun g => ⟨(hr.cs g).1, (hr.cs g).2.1, (hr.cs g).2.2.1, (hr.cs g).2.2.2.1, (hr.cs g).2.2.2.2.1, (hr.cs g).2.2.2.2.2.1, (hr.cs g).2.2.2.2.2.2.1, (hr.cs g).2.2.2.2.2.2.2.1, (hr.cs g).2.2.2.2.2.2.2.2.1, (hr.cs g).2.2.2.2.2.2.2.2.2.1, rfl, (hr.cs g).2.2.2.2.2.2.2.2.2.2.2.1, (hr.cs g).2.2.2.2.2.2.2.2.2.2.2.2.1, (hr.cs g).2.2.2.2.2.2.2.2.2.2.2.2.2.1, trivial⟩), hr.gb, hr.f0, hr.f1, hr.f2, hr.f3, hr.f4, hr.f5, hr.f6, hr.f7, hr.f8, hr.f9, (fun _ => rfl), hr.f11, hr.f12, hr.f13⟩⟩ (if_pos rfl) (fun j hj => if_neg hj)
      · revert hK
        obtain rfl := Option.some.inj ho
        have g6 : ℓ 6 = true := hdep { on := 6, ground := Ground.data } (by simp) rfl
        have g10 : ℓ 10 = true := hdep { on := 10, ground := Ground.data } (by simp) rfl
        clear hdep ho
        have hgb := hr.gb
        obtain rfl := hr.f6 g6
        obtain rfl := hr.f10 g10
        intro hK
        rw [if_pos (by rfl)]
        try simp only [Act.put, List.setIfInBounds_toArray, List.set_cons_zero, List.set_cons_succ]
        have hwr := HWR.out.2.1
        go_simp
        exact hK.out _ _ (fun j => if j = 11 then true else ℓ j) ⟨x41, x42, x43, x44, x45, x46, (.int .i64 (t.pad + t.grd)), x48, x49, x50, (.int .i64 z), (.int .i64 (t.pad + t.grd + z)), x53, x9, (by simp only [Act.put, List.setIfInBounds_toArray, List.set_cons_zero, List.set_cons_succ]), ⟨(fun g => ⟨(hr.cs g).1, (hr.cs g).2.1, (hr.cs g).2.2.1, (hr.cs g).2.2.2.1, (hr.cs g).2.2.2.2.1, (hr.cs g).2.2.2.2.2.1, (hr.cs g).2.2.2.2.2.2.1, (hr.cs g).2.2.2.2.2.2.2.1, (hr.cs g).2.2.2.2.2.2.2.2.1, (hr.cs g).2.2.2.2.2.2.2.2.2.1, (hr.cs g).2.2.2.2.2.2.2.2.2.2.1, rfl, (hr.cs g).2.2.2.2.2.2.2.2.2.2.2.2.1, (hr.cs g).2.2.2.2.2.2.2.2.2.2.2.2.2.1, trivial⟩), hr.gb, hr.f0, hr.f1, hr.f2, hr.f3, hr.f4, hr.f5, hr.f6, hr.f7, hr.f8, hr.f9, hr.f10, (fun _ => rfl), hr.f12, hr.f13⟩⟩ (if_pos rfl) (fun j hj => if_neg hj)
      · revert hK
        obtain rfl := Option.some.inj ho
        have g0 : ℓ 0 = true := hdep { on := 0, ground := Ground.data } (by simp) rfl
        have g1 : ℓ 1 = true := hdep { on := 1, ground := Ground.data } (by simp) rfl
        have g11 : ℓ 11 = true := hdep { on := 11, ground := Ground.data } (by simp) rfl
        clear hdep ho
        have hgb := hr.gb
        obtain rfl := hr.f0 g0
        obtain rfl := hr.f1 g1
        obtain rfl := hr.f11 g11
        intro hK
        rw [if_pos (by rfl)]
        try simp only [Act.put, List.setIfInBounds_toArray, List.set_cons_zero, List.set_cons_succ]
        go_simp
        exact hK.out _ _ (fun j => if j = 12 then true else ℓ j) ⟨(.int .i64 (m : Int)), (.int .i64 at0), x43, x44, x45, x46, x47, x48, x49, x50, x51, (.int .i64 (t.pad + t.grd + z)), (.agg #[.int .i64 (m : Int), .int .i64 at0, .int .i64 (t.pad + t.grd + z)]), x9, (by simp only [Act.put, List.setIfInBounds_toArray, List.set_cons_zero, List.set_cons_succ]), ⟨(fun g => ⟨(hr.cs g).1, (hr.cs g).2.1, (hr.cs g).2.2.1, (hr.cs g).2.2.2.1, (hr.cs g).2.2.2.2.1, (hr.cs g).2.2.2.2.2.1, (hr.cs g).2.2.2.2.2.2.1, (hr.cs g).2.2.2.2.2.2.2.1, (hr.cs g).2.2.2.2.2.2.2.2.1, (hr.cs g).2.2.2.2.2.2.2.2.2.1, (hr.cs g).2.2.2.2.2.2.2.2.2.2.1, (hr.cs g).2.2.2.2.2.2.2.2.2.2.2.1, rfl, (hr.cs g).2.2.2.2.2.2.2.2.2.2.2.2.2.1, trivial⟩), hr.gb, hr.f0, hr.f1, hr.f2, hr.f3, hr.f4, hr.f5, hr.f6, hr.f7, hr.f8, hr.f9, hr.f10, hr.f11, (fun _ => rfl), hr.f13⟩⟩ (if_pos rfl) (fun j hj => if_neg hj)
      · revert hK
        obtain rfl := Option.some.inj ho
        clear hdep ho
        have hl : ℓ 14 = false := by
          cases h7 : ℓ 14
          · rfl
          · have := (hr.cs h7).2.2.2.2.2.2.2.2.2.2.2.2.2.1; rw [this] at hL; cases hL
        have hgb := hr.gb
        intro hK
        rw [if_pos (by rfl)]
        try simp only [Act.put, List.setIfInBounds_toArray, List.set_cons_zero, List.set_cons_succ]
        have hr9 := hr.below (w9 := w'.alloc (.cells (#[.int .i64 0, .int .i64 0, .int .i64 0]) 46)) ((Below.refl _ _).alloc (Nat.le_refl _) _)
        go_simp
        exact hK.out _ _ (fun j => if j = 13 then true else ℓ j) ⟨x41, x42, x43, x44, x45, x46, x47, x48, x49, x50, x51, x52, x53, (.pointer (some ⟨w'.heap.size, 0, none⟩)), (by simp only [Act.put, List.setIfInBounds_toArray, List.set_cons_zero, List.set_cons_succ]), ⟨(fun g => ⟨(hr9.cs g).1, (hr9.cs g).2.1, (hr9.cs g).2.2.1, (hr9.cs g).2.2.2.1, (hr9.cs g).2.2.2.2.1, (hr9.cs g).2.2.2.2.2.1, (hr9.cs g).2.2.2.2.2.2.1, (hr9.cs g).2.2.2.2.2.2.2.1, (hr9.cs g).2.2.2.2.2.2.2.2.1, (hr9.cs g).2.2.2.2.2.2.2.2.2.1, (hr9.cs g).2.2.2.2.2.2.2.2.2.2.1, (hr9.cs g).2.2.2.2.2.2.2.2.2.2.2.1, (hr9.cs g).2.2.2.2.2.2.2.2.2.2.2.2.1, rfl, trivial⟩), hr9.gb, hr9.f0, hr9.f1, hr9.f2, hr9.f3, hr9.f4, hr9.f5, hr9.f6, hr9.f7, hr9.f8, hr9.f9, hr9.f10, hr9.f11, hr9.f12, (fun _ => ⟨w'.heap.size, rfl, hgb.size, (fun _ => new_row w' _ _ _ rfl), (fun g => by have g' : ℓ 14 = true := g; rw [hl] at g'; cases g')⟩)⟩⟩ (if_pos rfl) (fun j hj => if_neg hj)
      · replace ho : some ({ dst := none, op := .store 46 (.tmp 9) (.tmp 53), type := 0, pos := "l23_plan.go:31", after := #[{ on := 13, ground := Ground.data }, { on := 12, ground := Ground.data }, { on := 0, ground := Ground.phase }, { on := 1, ground := Ground.phase }, { on := 2, ground := Ground.phase }, { on := 3, ground := Ground.phase }, { on := 4, ground := Ground.phase }, { on := 5, ground := Ground.phase }, { on := 6, ground := Ground.phase }, { on := 7, ground := Ground.phase }, { on := 8, ground := Ground.phase }, { on := 9, ground := Ground.phase }, { on := 10, ground := Ground.phase }, { on := 11, ground := Ground.phase }, { on := 12, ground := Ground.phase }, { on := 13, ground := Ground.phase }], guard := none } : Oper) = some o := ho
        revert hK
        obtain rfl := Option.some.inj ho
        have g13 : ℓ 13 = true := hdep { on := 13, ground := Ground.data } (by simp) rfl
        have g12 : ℓ 12 = true := hdep { on := 12, ground := Ground.data } (by simp) rfl
        have g0 : ℓ 0 = true := hdep { on := 0, ground := Ground.phase } (by simp) rfl
        have g1 : ℓ 1 = true := hdep { on := 1, ground := Ground.phase } (by simp) rfl
        have g2 : ℓ 2 = true := hdep { on := 2, ground := Ground.phase } (by simp) rfl
        have g3 : ℓ 3 = true := hdep { on := 3, ground := Ground.phase } (by simp) rfl
        have g4 : ℓ 4 = true := hdep { on := 4, ground := Ground.phase } (by simp) rfl
        have g5 : ℓ 5 = true := hdep { on := 5, ground := Ground.phase } (by simp) rfl
        have g6 : ℓ 6 = true := hdep { on := 6, ground := Ground.phase } (by simp) rfl
        have g7 : ℓ 7 = true := hdep { on := 7, ground := Ground.phase } (by simp) rfl
        have g8 : ℓ 8 = true := hdep { on := 8, ground := Ground.phase } (by simp) rfl
        have g9 : ℓ 9 = true := hdep { on := 9, ground := Ground.phase } (by simp) rfl
        have g10 : ℓ 10 = true := hdep { on := 10, ground := Ground.phase } (by simp) rfl
        have g11 : ℓ 11 = true := hdep { on := 11, ground := Ground.phase } (by simp) rfl
        clear hdep ho
        have hgb := hr.gb
        obtain ⟨N, rfl, hN, hrow, _⟩ := hr.f13 g13
        obtain rfl := hr.f12 g12
        intro hK
        rw [if_pos (by rfl)]
        try simp only [Act.put, List.setIfInBounds_toArray, List.set_cons_zero, List.set_cons_succ]
        refine wp_store_row (P := Tryz.prog) 46 (.tmp 9) (.tmp 53) rfl N (#[.int .i64 (m : Int), .int .i64 at0, .int .i64 (t.pad + t.grd + z)]) rfl rfl 46 (#[.int .i64 0, .int .i64 0, .int .i64 0]) (hrow hL) (by kernel_rfl) rfl (by simp [Value.oneCell']) ?_
        exact hK.out _ _ (fun j => if j = 14 then true else ℓ j) ⟨x41, x42, x43, x44, x45, x46, x47, x48, x49, x50, x51, x52, (.agg #[.int .i64 (m : Int), .int .i64 at0, .int .i64 (t.pad + t.grd + z)]), (.pointer (some ⟨N, 0, none⟩)), (by simp only [Act.put, List.setIfInBounds_toArray, List.set_cons_zero, List.set_cons_succ]), ⟨(fun _ => ⟨g0, g1, g2, g3, g4, g5, g6, g7, g8, g9, g10, g11, g12, g13, trivial⟩), below_setRow hr.gb hN _, hr.f0, hr.f1, hr.f2, hr.f3, hr.f4, hr.f5, hr.f6, hr.f7, hr.f8, hr.f9, hr.f10, hr.f11, hr.f12, (fun _ => ⟨N, rfl, hN, (fun g => by cases g), fun _ => setRow_heap _ _ _ _ _ _ (hrow hL)⟩)⟩⟩ (if_pos rfl) (fun j hj => if_neg hj)
    · rintro a' w' ℓ ℓ' hℓ hI
      rw [← show ℓ = ℓ' from funext hℓ]
      exact hI
end Go.Proofs.YtmgopppgckgglaaGreatDoor
