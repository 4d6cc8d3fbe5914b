
/-
  Slots planned, by the program: whole. Conditions: the lists lie in memory; the numbers fit; the table opExtras lies as its text lays it.
-/
import Derived.Test.YtmgopppgckgglaaGreatDoorBas
import Derived.Test.YtmgopppgckgglaaGreatDoorIpd
import Derived.Test.YtmgopppgckgglaaGreatDoorIsw
import Derived.Test.YtmgopppgckgglaaGreatDoorRl3
namespace Go.Proofs.YtmgopppgckgglaaGreatDoor
open Go.ChangeShapes Go.WideShapes Go.ChangeAt Go.RowKit Go.Deep Go.Joins
set_option linter.unusedVariables false

theorem res_ipn {W : World} {B : Nat} {cs : Array Value} {b : Bool} {tmps : Array Value} (h : W.heap[B]? = some (.cells cs 33 (0, 0))) (hl : cs.size = 19) (ht : tmps[4]? = some (.pointer (some ⟨B, 0, none⟩))) (hq : tmps[5]? = some (.bool b)) : (results Tryz.f10 tmps).run Tryz.prog W = .ok (.tuple #[.agg cs, .bool b]) W := by
  have hld : (loadVar 33 ⟨B, 0, none⟩).run Tryz.prog W = .ok (.agg cs) W := run_loadVar_row (P := Tryz.prog) W B 33 33 cs (0, 0) _ h Tryz.underlying33 rfl (by rw [hl]; kernel_rfl)
  unfold results
  rw [Tryz.results10]
  simp [ht, hq, asAddr, hld]
set_option maxRecDepth 40000 in
set_option maxHeartbeats 16000000 in
theorem impl_plan (t : Tb) (a : Ad) (na : Option Addr) (n nc : Nat) (zs : List Int) (w : World) (hm : TM 0 w t a) (hw : TW t a) (hs : TS a) (he : TabE w) (hcp : a.pn ≤ a.pc) (hns : GSeg 1 w na n (inX zs)) (hnl : zs.length = n) (hnb : n ≤ 1048576) :
    Calls Tryz.prog 10 #[tbV t a, .slice na n nc] w fun e w' => ∃ R ar q, e = .returned (.tuple #[tbV R ar, .bool q]) ∧ PlA t zs R q ∧ Below w.heap.size w w' ∧ OTR w.heap.size w' R ar := by
  obtain ⟨q, hq⟩ := told (Sd t)
  have HB : Hid (Below w.heap.size w ((w.alloc (.cells (tbA t a) 33)).alloc (.cells #[.int .i64 0, .int .i64 0, .int .i64 0, .int .i64 0, .int .i64 0, .int .i64 0, .int .i64 0, .int .i64 0, .int .i64 0, .int .i64 0, .int .i64 0, .int .i64 0, .int .i64 0, .int .i64 0, .int .i64 0, .slice none 0 0, .slice none 0 0, .slice none 0 0, .slice none 0 0] 33))) := ((Below.refl _ _).alloc (Nat.le_refl _) _).alloc (by simp) _
  have HX : Hid (TBx ((w.alloc (.cells (tbA t a) 33)).alloc (.cells #[.int .i64 0, .int .i64 0, .int .i64 0, .int .i64 0, .int .i64 0, .int .i64 0, .int .i64 0, .int .i64 0, .int .i64 0, .int .i64 0, .int .i64 0, .int .i64 0, .int .i64 0, .int .i64 0, .int .i64 0, .slice none 0 0, .slice none 0 0, .slice none 0 0, .slice none 0 0] 33)) w.heap.size t a) := (TBx.new w t a _ rfl).below ((Below.refl _ _).alloc (Nat.le_refl _) _)
  have HR : Hid (((w.alloc (.cells (tbA t a) 33)).alloc (.cells #[.int .i64 0, .int .i64 0, .int .i64 0, .int .i64 0, .int .i64 0, .int .i64 0, .int .i64 0, .int .i64 0, .int .i64 0, .int .i64 0, .int .i64 0, .int .i64 0, .int .i64 0, .int .i64 0, .int .i64 0, .slice none 0 0, .slice none 0 0, .slice none 0 0, .slice none 0 0] 33)).heap[w.heap.size + 1]? = some (.cells #[.int .i64 0, .int .i64 0, .int .i64 0, .int .i64 0, .int .i64 0, .int .i64 0, .int .i64 0, .int .i64 0, .int .i64 0, .int .i64 0, .int .i64 0, .int .i64 0, .int .i64 0, .int .i64 0, .int .i64 0, .slice none 0 0, .slice none 0 0, .slice none 0 0, .slice none 0 0] 33 (0, 0))) := new_row (w.alloc (.cells (tbA t a) 33)) _ _ _ (by simp)
  have HS : Hid (∀ X, Below w.heap.size w X → Calls Tryz.prog 11 #[tbV t a] X fun e w' => e = .returned (.bool q) ∧ Below X.heap.size X w') := fun X hX => impl_sound t a q X (hm.below hX) hw hs (he.below hX) hcp hq
  have HMW : Hid (∀ X, Below w.heap.size w X → TM 0 X t a) := fun X hX => hm.below hX
  have HNS : Hid (∀ X, Below w.heap.size w X → GSeg 1 X na n (inX zs)) := fun X hX => hns.below hX
  have HC : Hid (TW t a ∧ TS a ∧ zs.length = n ∧ n ≤ 1048576) := ⟨hw, hs, hnl, hnb⟩
  have HQ : Hid (q = true ↔ Sd t) := hq
  clear hq hm hw hs he hcp hns hnl hnb
  go_enter Tryz.func10, Tryz.ntmps10
  go_wp2_with (first | (refine wpList_load_row rfl 33 (.tmp 2) rfl w.heap.size rfl 33 (tbA t a) (0, 0) _ HX.out Tryz.underlying33 rfl (by kernel_rfl) ?_) | (refine wpList_load_row_w (by rfl) 33 (.tmp 2) rfl w.heap.size rfl 33 (tbA t a) (0, 0) _ HX.out Tryz.underlying33 rfl (by kernel_rfl) ?_) | fail)
  revert HB HX HR
  generalize ((w.alloc (.cells (tbA t a) 33)).alloc (.cells #[.int .i64 0, .int .i64 0, .int .i64 0, .int .i64 0, .int .i64 0, .int .i64 0, .int .i64 0, .int .i64 0, .int .i64 0, .int .i64 0, .int .i64 0, .int .i64 0, .int .i64 0, .int .i64 0, .int .i64 0, .slice none 0 0, .slice none 0 0, .slice none 0 0, .slice none 0 0] 33)) = WA
  intro HB HX HR
  refine Calls.mono (HS.out _ HB.out) ?_
  rintro e w9 ⟨rfl, hb9⟩
  replace HR : Hid (w9.heap[w.heap.size + 1]? = some (.cells #[.int .i64 0, .int .i64 0, .int .i64 0, .int .i64 0, .int .i64 0, .int .i64 0, .int .i64 0, .int .i64 0, .int .i64 0, .int .i64 0, .int .i64 0, .int .i64 0, .int .i64 0, .int .i64 0, .int .i64 0, .slice none 0 0, .slice none 0 0, .slice none 0 0, .slice none 0 0] 33 (0, 0))) := row_below HR.out hb9
  replace HX : Hid (TBx w9 w.heap.size t a) := HX.out.below hb9
  replace HB : Hid (Below w.heap.size w w9) := HB.out.trans (hb9.mono HB.out.size)
  clear hb9
  cases q
  · have HNO : Hid (¬ PlOK t zs) := fun h => absurd (HQ.out.2 h.1) (by simp)
    clear HS HC HMW HNS
    go_wp2_with (first | (refine wpList_load_row rfl 33 (.tmp 2) rfl w.heap.size rfl 33 (tbA t a) (0, 0) _ HX.out Tryz.underlying33 rfl (by kernel_rfl) ?_) | (refine wpList_load_row_w (by rfl) 33 (.tmp 2) rfl w.heap.size rfl 33 (tbA t a) (0, 0) _ HX.out Tryz.underlying33 rfl (by kernel_rfl) ?_) | (refine wpList_store_row rfl 33 (.tmp 4) (.tmp 23) rfl (w.heap.size + 1) (#[.int .i64 0, .int .i64 0, .int .i64 0, .int .i64 0, .int .i64 0, .int .i64 0, .int .i64 0, .int .i64 0, .int .i64 0, .int .i64 0, .int .i64 0, .int .i64 0, .int .i64 0, .int .i64 0, .int .i64 0, .slice none 0 0, .slice none 0 0, .slice none 0 0, .slice none 0 0]) rfl rfl 33 (#[.int .i64 0, .int .i64 0, .int .i64 0, .int .i64 0, .int .i64 0, .int .i64 0, .int .i64 0, .int .i64 0, .int .i64 0, .int .i64 0, .int .i64 0, .int .i64 0, .int .i64 0, .int .i64 0, .int .i64 0, .slice none 0 0, .slice none 0 0, .slice none 0 0, .slice none 0 0]) HR.out (by kernel_rfl) rfl (by simp [Value.oneCell']) ?_) | fail)
    refine bodyPost_ret (v := .tuple #[tbV tz az, .bool false]) (res_ipn (setRow_heap _ _ _ _ _ _ HR.out) rfl rfl rfl) rfl ⟨tz, az, false, rfl, Or.inl ⟨HNO.out, rfl, rfl⟩, below_setRow HB.out (Nat.le_succ _) _, otr_zero (by show w.heap.size ≤ (World.setRow _ _ _).heap.size; have := HB.out.size; simpa using this)⟩
  have HSD : Hid (Sd t) := HQ.out.1 rfl
  have k15 : w9.cell? ⟨w.heap.size, 15, none⟩ = some (.slice a.pa a.pn a.pc) := HX.out.cell 15 rfl
  clear HQ HS
  by_cases hnp : n = a.pn
  rotate_left
  · have hne : ((n : Int) != (a.pn : Int)) = true := by simp; omega
    have HNO : Hid (¬ PlOK t zs) := fun h => hnp (by have h1 := h.2.1; have h2 := HC.out.1.pl; have h3 := HC.out.2.2.1; omega)
    clear HC HMW HNS hnp
    go_wp2_with (first | (refine wpList_load_row rfl 33 (.tmp 2) rfl w.heap.size rfl 33 (tbA t a) (0, 0) _ HX.out Tryz.underlying33 rfl (by kernel_rfl) ?_) | (refine wpList_load_row_w (by rfl) 33 (.tmp 2) rfl w.heap.size rfl 33 (tbA t a) (0, 0) _ HX.out Tryz.underlying33 rfl (by kernel_rfl) ?_) | (refine wpList_store_row rfl 33 (.tmp 4) (.tmp 23) rfl (w.heap.size + 1) (#[.int .i64 0, .int .i64 0, .int .i64 0, .int .i64 0, .int .i64 0, .int .i64 0, .int .i64 0, .int .i64 0, .int .i64 0, .int .i64 0, .int .i64 0, .int .i64 0, .int .i64 0, .int .i64 0, .int .i64 0, .slice none 0 0, .slice none 0 0, .slice none 0 0, .slice none 0 0]) rfl rfl 33 (#[.int .i64 0, .int .i64 0, .int .i64 0, .int .i64 0, .int .i64 0, .int .i64 0, .int .i64 0, .int .i64 0, .int .i64 0, .int .i64 0, .int .i64 0, .int .i64 0, .int .i64 0, .int .i64 0, .int .i64 0, .slice none 0 0, .slice none 0 0, .slice none 0 0, .slice none 0 0]) HR.out (by kernel_rfl) rfl (by simp [Value.oneCell']) ?_) | fail)
    refine bodyPost_ret (v := .tuple #[tbV tz az, .bool false]) (res_ipn (setRow_heap _ _ _ _ _ _ HR.out) rfl rfl rfl) rfl ⟨tz, az, false, rfl, Or.inl ⟨HNO.out, rfl, rfl⟩, below_setRow HB.out (Nat.le_succ _) _, otr_zero (by show w.heap.size ≤ (World.setRow _ _ _).heap.size; have := HB.out.size; simpa using this)⟩
  have hne : ((n : Int) != (a.pn : Int)) = false := by simp; omega
  have HPP : Hid ((1 ≤ n ∧ n ≤ 6) ∧ (1 ≤ t.pad ∧ t.pad ≤ 5000) ∧ (1 ≤ t.grd ∧ t.grd ≤ 5000) ∧ zs.length = t.ps.length ∧ zs.length = n) := by
    have h8 : 1 ≤ t.ps.length ∧ t.ps.length ≤ 6 := HSD.out 8 (by omega)
    have h2 := HC.out.1.pl
    have h3 := HC.out.2.2.1
    exact ⟨⟨by omega, by omega⟩, HSD.out 4 (by omega), HSD.out 5 (by omega), by omega, h3⟩
  obtain ⟨q2, hq2⟩ := told (∀ i, i < n → 0 ≤ zs.getD i 0 ∧ zs.getD i 0 ≤ 5000)
  have HQ2 : Hid (q2 = true ↔ ∀ i, i < n → 0 ≤ zs.getD i 0 ∧ zs.getD i 0 ≤ 5000) := hq2
  clear hq2 hnp
  go_wp2_with (first | (refine wpList_load_row rfl 33 (.tmp 2) rfl w.heap.size rfl 33 (tbA t a) (0, 0) _ HX.out Tryz.underlying33 rfl (by kernel_rfl) ?_) | (refine wpList_load_row_w (by rfl) 33 (.tmp 2) rfl w.heap.size rfl 33 (tbA t a) (0, 0) _ HX.out Tryz.underlying33 rfl (by kernel_rfl) ?_) | fail)
  refine Calls.mono (need_every na nc n zs q2 _ (HNS.out _ HB.out) (by have := HC.out.2.2.2; omega) HQ2.out) ?_
  rintro e w9b ⟨rfl, rfl⟩
  clear k15 hne
  cases q2
  · have HNO : Hid (¬ PlOK t zs) := fun h => absurd (HQ2.out.2 (by have h1 := h.2.2.1; rw [HPP.out.2.2.2.2] at h1; exact h1)) (by simp)
    clear HC HMW HNS HQ2
    go_wp2_with (first | (refine wpList_load_row rfl 33 (.tmp 2) rfl w.heap.size rfl 33 (tbA t a) (0, 0) _ HX.out Tryz.underlying33 rfl (by kernel_rfl) ?_) | (refine wpList_load_row_w (by rfl) 33 (.tmp 2) rfl w.heap.size rfl 33 (tbA t a) (0, 0) _ HX.out Tryz.underlying33 rfl (by kernel_rfl) ?_) | (refine wpList_store_row rfl 33 (.tmp 4) (.tmp 23) rfl (w.heap.size + 1) (#[.int .i64 0, .int .i64 0, .int .i64 0, .int .i64 0, .int .i64 0, .int .i64 0, .int .i64 0, .int .i64 0, .int .i64 0, .int .i64 0, .int .i64 0, .int .i64 0, .int .i64 0, .int .i64 0, .int .i64 0, .slice none 0 0, .slice none 0 0, .slice none 0 0, .slice none 0 0]) rfl rfl 33 (#[.int .i64 0, .int .i64 0, .int .i64 0, .int .i64 0, .int .i64 0, .int .i64 0, .int .i64 0, .int .i64 0, .int .i64 0, .int .i64 0, .int .i64 0, .int .i64 0, .int .i64 0, .int .i64 0, .int .i64 0, .slice none 0 0, .slice none 0 0, .slice none 0 0, .slice none 0 0]) HR.out (by kernel_rfl) rfl (by simp [Value.oneCell']) ?_) | fail)
    refine bodyPost_ret (v := .tuple #[tbV tz az, .bool false]) (res_ipn (setRow_heap _ _ _ _ _ _ HR.out) rfl rfl rfl) rfl ⟨tz, az, false, rfl, Or.inl ⟨HNO.out, rfl, rfl⟩, below_setRow HB.out (Nat.le_succ _) _, otr_zero (by show w.heap.size ≤ (World.setRow _ _ _).heap.size; have := HB.out.size; simpa using this)⟩
  have HZ : Hid (∀ i, i < n → 0 ≤ zs.getD i 0 ∧ zs.getD i 0 ≤ 5000) := HQ2.out.1 rfl
  clear HQ2
  go_wp2_with (first | (refine wpList_load_row rfl 33 (.tmp 2) rfl w.heap.size rfl 33 (tbA t a) (0, 0) _ HX.out Tryz.underlying33 rfl (by kernel_rfl) ?_) | (refine wpList_load_row_w (by rfl) 33 (.tmp 2) rfl w.heap.size rfl 33 (tbA t a) (0, 0) _ HX.out Tryz.underlying33 rfl (by kernel_rfl) ?_) | fail)
  refine Calls.mono (impl_planned t a na n nc zs _ (HNS.out _ HB.out) HPP.out.2.2.2.2 HPP.out.1 HPP.out.2.1 HPP.out.2.2.1 HZ.out) ?_
  rintro e w9c ⟨aa, len, cap, rfl, hb9, hlen, hlc, hls⟩
  have HLS : Hid (LS 3 w9b.heap.size w9c.heap.size w9c aa len (slX (plM t zs n))) := hls
  have HLL : Hid ((plM t zs n).length = len ∧ len ≤ cap ∧ len ≤ 6) := ⟨hlen, hlc, by have := plM_len t zs n; have := HPP.out.1; omega⟩
  have HT0 : Hid (w.heap.size + 1 < w9b.heap.size) := (Array.getElem?_eq_some_iff.1 HR.out).1
  replace HR : Hid (w9c.heap[w.heap.size + 1]? = some (.cells #[.int .i64 0, .int .i64 0, .int .i64 0, .int .i64 0, .int .i64 0, .int .i64 0, .int .i64 0, .int .i64 0, .int .i64 0, .int .i64 0, .int .i64 0, .int .i64 0, .int .i64 0, .int .i64 0, .int .i64 0, .slice none 0 0, .slice none 0 0, .slice none 0 0, .slice none 0 0] 33 (0, 0))) := row_below HR.out hb9
  replace HX : Hid (TBx w9c w.heap.size t a) := HX.out.below hb9
  replace HB : Hid (Below w.heap.size w w9c) := HB.out.trans (hb9.mono HB.out.size)
  have HRG : Hid (∀ i, i < len → -4611686018427387904 ≤ ((plM t zs n).getD i sl0).2.1 + ((plM t zs n).getD i sl0).2.2 ∧ ((plM t zs n).getD i sl0).2.1 + ((plM t zs n).getD i sl0).2.2 ≤ 4611686018427387904) := fun i hi => by
    have h1 := plM_ok HPP.out.2.1 HPP.out.2.2.1 n (by have := HPP.out.2.2.2; omega) HZ.out i (by omega)
    have h2 := plAt_rng HPP.out.2.1 HPP.out.2.2.1 n HZ.out
    have h3 := HPP.out.1
    have h4 := HPP.out.2.1
    have h5 := HPP.out.2.2.1
    exact ⟨by have := h1.2.1; have := h1.2.2.2.1; omega, by have := h1.2.2.2.2; omega⟩
  clear hb9 hlen hlc hls
  obtain ⟨q3, hq3⟩ := told (0 < len ∧ ((plM t zs n).getD (len - 1) sl0).2.1 + ((plM t zs n).getD (len - 1) sl0).2.2 ≤ t.maj)
  have HQ3 : Hid (q3 = true ↔ (0 < len ∧ ((plM t zs n).getD (len - 1) sl0).2.1 + ((plM t zs n).getD (len - 1) sl0).2.2 ≤ t.maj)) := hq3
  have HOK : Hid (PlOK t zs ↔ (0 < len ∧ ((plM t zs n).getD (len - 1) sl0).2.1 + ((plM t zs n).getD (len - 1) sl0).2.2 ≤ t.maj)) := by
    have hl := plM_last (t := t) (zs := zs) n
    have hzn := HPP.out.2.2.2.2
    have hll := HLL.out.1
    rw [hll] at hl
    refine ⟨fun h => ?_, fun h => ⟨HSD.out, HPP.out.2.2.2.1, by rw [hzn]; exact HZ.out, by rw [hzn, hll]; omega, ?_⟩⟩
    · have h1 := h.2.2.2.1
      have h2 := h.2.2.2.2
      rw [hzn, hll] at h1
      rw [hzn] at h2
      refine ⟨by omega, ?_⟩
      rcases hl with ⟨g1, _⟩ | ⟨_, g2⟩
      · rw [g1] at hll; simp at hll; omega
      · omega
    · rw [hzn]
      rcases hl with ⟨g1, _⟩ | ⟨_, g2⟩
      · rw [g1] at hll; simp at hll; omega
      · omega
  clear hq3
  go_wp2_with (first | (refine wpList_load_row rfl 33 (.tmp 2) rfl w.heap.size rfl 33 (tbA t a) (0, 0) _ HX.out Tryz.underlying33 rfl (by kernel_rfl) ?_) | (refine wpList_load_row_w (by rfl) 33 (.tmp 2) rfl w.heap.size rfl 33 (tbA t a) (0, 0) _ HX.out Tryz.underlying33 rfl (by kernel_rfl) ?_) | fail)
  refine Calls.mono (impl_fits t a aa len cap (plM t zs n) q3 w9c HLS.out.1 (by have := HLL.out.2.2; omega) HRG.out HQ3.out) ?_
  rintro e w9d ⟨rfl, hb9⟩
  replace HR : Hid (w9d.heap[w.heap.size + 1]? = some (.cells #[.int .i64 0, .int .i64 0, .int .i64 0, .int .i64 0, .int .i64 0, .int .i64 0, .int .i64 0, .int .i64 0, .int .i64 0, .int .i64 0, .int .i64 0, .int .i64 0, .int .i64 0, .int .i64 0, .int .i64 0, .slice none 0 0, .slice none 0 0, .slice none 0 0, .slice none 0 0] 33 (0, 0))) := row_below HR.out hb9
  replace HX : Hid (TBx w9d w.heap.size t a) := HX.out.below hb9
  replace HB : Hid (Below w.heap.size w w9d) := HB.out.trans (hb9.mono HB.out.size)
  have HLD : Hid (LS 3 w9b.heap.size w9c.heap.size w9d aa len (slX (plM t zs n))) := HLS.out.below hb9
  clear hb9 HLS HRG
  cases q3
  · have HNO : Hid (¬ PlOK t zs) := fun h => absurd (HQ3.out.2 (HOK.out.1 h)) (by simp)
    clear HC HMW HNS HQ3 HOK HLD HLL HZ HPP
    go_wp2_with (first | (refine wpList_load_row rfl 33 (.tmp 2) rfl w.heap.size rfl 33 (tbA t a) (0, 0) _ HX.out Tryz.underlying33 rfl (by kernel_rfl) ?_) | (refine wpList_load_row_w (by rfl) 33 (.tmp 2) rfl w.heap.size rfl 33 (tbA t a) (0, 0) _ HX.out Tryz.underlying33 rfl (by kernel_rfl) ?_) | (refine wpList_store_row rfl 33 (.tmp 4) (.tmp 31) rfl (w.heap.size + 1) (#[.int .i64 0, .int .i64 0, .int .i64 0, .int .i64 0, .int .i64 0, .int .i64 0, .int .i64 0, .int .i64 0, .int .i64 0, .int .i64 0, .int .i64 0, .int .i64 0, .int .i64 0, .int .i64 0, .int .i64 0, .slice none 0 0, .slice none 0 0, .slice none 0 0, .slice none 0 0]) rfl rfl 33 (#[.int .i64 0, .int .i64 0, .int .i64 0, .int .i64 0, .int .i64 0, .int .i64 0, .int .i64 0, .int .i64 0, .int .i64 0, .int .i64 0, .int .i64 0, .int .i64 0, .int .i64 0, .int .i64 0, .int .i64 0, .slice none 0 0, .slice none 0 0, .slice none 0 0, .slice none 0 0]) HR.out (by kernel_rfl) rfl (by simp [Value.oneCell']) ?_) | fail)
    refine bodyPost_ret (v := .tuple #[tbV tz az, .bool false]) (res_ipn (setRow_heap _ _ _ _ _ _ HR.out) rfl rfl rfl) rfl ⟨tz, az, false, rfl, Or.inl ⟨HNO.out, rfl, rfl⟩, below_setRow HB.out (Nat.le_succ _) _, otr_zero (by show w.heap.size ≤ (World.setRow _ _ _).heap.size; have := HB.out.size; simpa using this)⟩
  have HYES : Hid (PlOK t zs) := HOK.out.2 (HQ3.out.1 rfl)
  clear HQ3 HOK
  have ko : w9d.cell? ⟨w.heap.size, 18, none⟩ = some (.slice a.sa a.sn a.sc) := HX.out.cell 18 rfl
  have kf : w9d.frozen? ⟨w.heap.size, 18, none⟩ = false := tbx_free HX.out 18
  have HXS : Hid (TBx (w9d.setCell ⟨w.heap.size, 18, none⟩ (.slice aa len cap)) w.heap.size { t with ss := plM t zs n } { a with sa := aa, sn := len, sc := cap }) := tbx_set (b := { a with sa := aa, sn := len, sc := cap }) HX.out 18 (.slice aa len cap) rfl
  have HRS : Hid ((w9d.setCell ⟨w.heap.size, 18, none⟩ (.slice aa len cap)).heap[w.heap.size + 1]? = some (.cells #[.int .i64 0, .int .i64 0, .int .i64 0, .int .i64 0, .int .i64 0, .int .i64 0, .int .i64 0, .int .i64 0, .int .i64 0, .int .i64 0, .int .i64 0, .int .i64 0, .int .i64 0, .int .i64 0, .int .i64 0, .slice none 0 0, .slice none 0 0, .slice none 0 0, .slice none 0 0] 33 (0, 0))) := (block_set_other _ _ _ _ _ (by omega)).trans HR.out
  have HBS : Hid (Below w.heap.size w (w9d.setCell ⟨w.heap.size, 18, none⟩ (.slice aa len cap))) := HB.out.setCell (p := ⟨w.heap.size, 18, none⟩) (Nat.le_refl _) _
  have HMS : Hid (TM 0 (w9d.setCell ⟨w.heap.size, 18, none⟩ (.slice aa len cap)) { t with ss := plM t zs n } { a with sa := aa, sn := len, sc := cap }) := by
    have h := HMW.out _ HBS.out
    have hl : LS 3 w9b.heap.size w9c.heap.size (w9d.setCell ⟨w.heap.size, 18, none⟩ (.slice aa len cap)) aa len (slX (plM t zs n)) := HLD.out.set (Or.inl (by have := HT0.out; omega))
    exact ⟨h.p, h.d, h.c, hl.1.low⟩
  have HTS : Hid (TW { t with ss := plM t zs n } { a with sa := aa, sn := len, sc := cap } ∧ TS { a with sa := aa, sn := len, sc := cap }) := by
    have h := HC.out.1
    have hl := HLL.out
    refine ⟨⟨h.pl, h.dl, h.cl, hl.1, h.pb, h.db, h.cb, by show len ≤ _; omega, h.wb, h.wf, fun j hj => ?_⟩, ⟨HC.out.2.1.p, HC.out.2.1.d, HC.out.2.1.c, by show len ≤ _; omega, HC.out.2.1.w⟩⟩
    have hj2 : j < len := hj
    exact plM_rng HPP.out.2.1 HPP.out.2.2.1 n HPP.out.1.2 HZ.out j (by omega)
  clear HX HR HB HLD
  go_wp2_with (first | (refine wpList_load_row rfl 33 (.tmp 2) rfl w.heap.size rfl 33 (tbA { t with ss := plM t zs n } { a with sa := aa, sn := len, sc := cap }) (0, 0) _ HXS.out Tryz.underlying33 rfl (by kernel_rfl) ?_) | (refine wpList_load_row_w (by rfl) 33 (.tmp 2) rfl w.heap.size rfl 33 (tbA { t with ss := plM t zs n } { a with sa := aa, sn := len, sc := cap }) (0, 0) _ HXS.out Tryz.underlying33 rfl (by kernel_rfl) ?_) | fail)
  revert HXS HRS HBS HMS
  generalize (w9d.setCell ⟨w.heap.size, 18, none⟩ (.slice aa len cap)) = WE
  intro HXS HRS HBS HMS
  refine Calls.mono (impl_cptab { t with ss := plM t zs n } { a with sa := aa, sn := len, sc := cap } WE HMS.out HTS.out.1 HTS.out.2) ?_
  rintro e w5 ⟨a5, rfl, hb5, ho5, _⟩
  have HR5 : Hid (w5.heap[w.heap.size + 1]? = some (.cells #[.int .i64 0, .int .i64 0, .int .i64 0, .int .i64 0, .int .i64 0, .int .i64 0, .int .i64 0, .int .i64 0, .int .i64 0, .int .i64 0, .int .i64 0, .int .i64 0, .int .i64 0, .int .i64 0, .int .i64 0, .slice none 0 0, .slice none 0 0, .slice none 0 0, .slice none 0 0] 33 (0, 0))) := row_below HRS.out hb5
  have HB5 : Hid (Below w.heap.size w w5) := HBS.out.trans (hb5.mono HBS.out.size)
  have HRF : Hid ((w5.setRow (w.heap.size + 1) (tbA t a5)).heap[w.heap.size + 1]? = some (.cells (tbA t a5) 33 (0, 0))) := setRow_heap _ _ _ _ _ _ HR5.out
  have HBF : Hid (Below w.heap.size w (w5.setRow (w.heap.size + 1) (tbA t a5))) := below_setRow HB5.out (Nat.le_succ _) _
  have hlt2 : w.heap.size + 1 < WE.heap.size := (Array.getElem?_eq_some_iff.1 HRS.out).1
  have HOF : Hid (OTR w.heap.size (w5.setRow (w.heap.size + 1) (tbA t a5)) { t with ss := plM t zs n } a5) := by
    have h := ho5.setRow (cs := tbA t a5) hlt2
    exact ⟨h.m, h.o.wide (Nat.le_of_lt (Nat.lt_of_succ_lt hlt2)) (Nat.le_refl _), h.w, h.s, h.cp, h.cs⟩
  have HFN : Hid (({ t with ss := plM t zs n } : Tb) = { t with ss := plM t zs zs.length }) := by show _ = _; rw [HPP.out.2.2.2.2]
  clear hb5 ho5 HMS HTS HXS HBS HB5 hlt2 HZ HC HNS HMW
  go_wp2_with (first | (refine wpList_store_row rfl 33 (.tmp 4) (.tmp 35) rfl (w.heap.size + 1) (tbA t a5) rfl rfl 33 (#[.int .i64 0, .int .i64 0, .int .i64 0, .int .i64 0, .int .i64 0, .int .i64 0, .int .i64 0, .int .i64 0, .int .i64 0, .int .i64 0, .int .i64 0, .int .i64 0, .int .i64 0, .int .i64 0, .int .i64 0, .slice none 0 0, .slice none 0 0, .slice none 0 0, .slice none 0 0]) HR5.out (by kernel_rfl) rfl (by simp [Value.oneCell']) ?_) | fail)
  exact bodyPost_ret (v := .tuple #[tbV { t with ss := plM t zs n } a5, .bool true]) (res_ipn HRF.out rfl rfl rfl) rfl ⟨{ t with ss := plM t zs n }, a5, true, rfl, Or.inr ⟨HYES.out, HFN.out, rfl⟩, HBF.out, HOF.out⟩
end Go.Proofs.YtmgopppgckgglaaGreatDoor
