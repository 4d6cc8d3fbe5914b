
/-
  Whether a cache is right: the program's own function tells it. Conditions: the rows and their ways are at most 1048576 together.
-/
import Derived.Test.YtmbpmhmehiiiaaaRows
import Derived.Test.YtmbpmhmehiiiaaaWfn
import Derived.Test.YtmbpmhmehiiiaaaCok
import Derived.Deep.RegionHeld3
namespace Go.Proofs.Ytmbpmhmehiiiaaa
open Go.ChangeShapes Go.WideShapes Go.ChangeAt Go.RowKit Go.Deep
set_option linter.unusedVariables false

theorem hasT_take {ws : List Wy} {k : Nat} (hk : k ≤ ws.length) (t : Int) : hasT (ws.take k) t = true ↔ ∃ j, j < k ∧ tg ws j = t := by
  have hg : ∀ j, j < k → (ws.take k).getD j wd = ws.getD j wd := fun j hj => by simp only [List.getD, List.getElem?_take]; rw [if_pos hj]
  have hl : (ws.take k).length = k := by rw [List.length_take]; omega
  constructor
  · intro h
    by_cases c : ∃ j, j < k ∧ tg ws j = t
    · exact c
    · rw [hasT_no (fun j hj => ?_)] at h
      · cases h
      · rw [hl] at hj
        rw [hg j hj]
        exact fun e => c ⟨j, hj, e⟩
  · rintro ⟨j, hj, e⟩
    refine hasT_yes (k := j) (by omega) ?_
    rw [hg j hj]
    exact e
theorem WSeg.take {w : World} {a : Option Addr} {ws : List Wy} (h : WSeg w a ws) (k : Nat) (hk : k ≤ ws.length) : WSeg w a (ws.take k) := fun h0 => by
  have hl : (ws.take k).length = k := by rw [List.length_take]; omega
  obtain ⟨b, off, e, hlt, hc⟩ := h (by omega)
  refine ⟨b, off, e, hlt, fun i hi => ?_⟩
  have hg : (ws.take k).getD i wd = ws.getD i wd := by simp only [List.getD, List.getElem?_take]; rw [if_pos (by omega)]
  rw [hg]
  exact hc i (by omega)
set_option maxRecDepth 100000 in
theorem slice_to (a : Option Addr) (len cap k : Nat) (h : k ≤ cap) (w : World) : (Instr.slice 68 (.slice a len cap) none (some (.int .i64 (k : Int))) none).run Try.prog w = .ok (.slice a k cap) w := by
  rw [run_slice_h w 68 a len cap Try.underlying68 .i64 (k : Int) (by omega) (by omega)]
  have e : ∀ w, (sizeOf (Try.prog.elem 68)).run Try.prog w = .ok 2 w := fun w => by kernel_rfl
  cases a <;> simp [e, sliced, Addr.add]
set_option maxHeartbeats 2000000 in
theorem impl_rowk (s y l : Int) (a : Option Addr) (cap len : Nat) (ws : List Wy) (w : World) (hs : WSeg w a ws) (hlen : ws.length = len) (hn : len ≤ 1048576) (hcap : len ≤ cap) (q : Bool) (hq : q = true ↔ RowOk y ws) :
    Calls Try.prog 32 #[shp s y l, .slice a len cap] w fun e w' => e = .returned (.bool q) ∧ Below w.heap.size w w' := by
  have HS : Hid _ := And.intro hs hlen
  have HQ : Hid _ := hq
  have HB : Hid _ := (Below.refl _ w).alloc (Nat.le_refl _) (shrow 25 s y l)
  clear hs hq hlen
  by_cases hy : y < (len : Int)
  · have HF : Hid (false = q) := told_no HQ.out (fun h => by have := h.1; rw [HS.out.2] at this; omega)
    go_enter Try.func32, Try.ntmps32
    go_wp2
    go_ret
    exact ⟨ret_bool HF.out, HB.out⟩
  have HG : Hid (RowOk y ws ↔ ∀ i, i < len → rowGood ws i) := ⟨fun h i hi => h.2 i (by rw [HS.out.2]; exact hi), fun h => ⟨by rw [HS.out.2]; omega, fun i hi => h i (by rw [← HS.out.2]; exact hi)⟩⟩
  go_enter Try.func32, Try.ntmps32
  go_wp2
  go_loopw [15] (fun i wr => ∃ k : Nat, k ≤ len ∧ i = .int .i64 k ∧ Hid (Below w.heap.size w wr) ∧ Hid (∀ j, j < k → rowGood ws j)) (fun i _ => len - (intOf i).toNat)
  case atStart => exact ⟨0, by omega, rfl, HB, fun j hj => absurd hj (by omega)⟩
  case round =>
    obtain ⟨k, hk, rfl, HW, HJ⟩ := hrel
    clear HB
    by_cases hlt : k < len
    rotate_left
    · obtain rfl : k = len := by omega
      go_wp2
      go_ret
      exact ⟨ret_bool (told_yes HQ.out (HG.out.2 HJ.out)), HW.out⟩
    have hlt' : (k : Int) < (len : Int) := by omega
    obtain ⟨b1, o1, rfl, hbl1, c1, d1⟩ := WSeg.at (w := w) HS.out.1 k (by rw [HS.out.2]; exact hlt)
    replace c1 := kept_cell HW.out c1
    replace d1 := kept_cell HW.out d1
    change _ = some (Value.int .i64 (tg ws k)) at c1
    generalize (ws.getD k wd).2 = d at d1
    have HRG : Hid (rowGood ws k ↔ (0 ≤ tg ws k ∧ tg ws k ≤ 65535) ∧ ∀ j, j < k → tg ws j ≠ tg ws k) := Iff.rfl
    have HF : Hid (¬ rowGood ws k → false = q) := fun h => told_no HQ.out (fun g => h (HG.out.1 g k hlt))
    have HT : Hid (rowGood ws k → ∀ j, j < k + 1 → rowGood ws j) := fun g j hj => by
      by_cases e : j = k
      · subst e; exact g
      · exact HJ.out j (by omega)
    have HTK : Hid (hasT (ws.take k) (tg ws k) = true ↔ ∃ j, j < k ∧ tg ws j = tg ws k) := hasT_take (by rw [HS.out.2]; omega) _
    generalize rowGood ws k = G at HRG HF HT
    generalize tg ws k = z at c1 HRG HTK
    clear hbl1 HJ
    obtain ⟨tw, HTW⟩ : ∃ tw, Hid (hasT (ws.take k) z = tw) := ⟨_, rfl⟩
    have hsl := slice_to (some ⟨b1, o1, none⟩) len cap k (by omega)
    have c6 := new_cell wr #[.int .i64 z, .bool d] 61 0 _ rfl
    have hb : Below w.heap.size w (wr.alloc (.cells #[.int .i64 z, .bool d] 61)) := HW.out.alloc HW.out.size _
    have HH : Hid (∀ X, Calls Try.prog 34 #[.int .i64 z] X fun e w' => ∃ B, e = .returned (tagF B) ∧ Below X.heap.size X w' ∧ w'.cell? ⟨B, 0, none⟩ = some (.int .i64 z)) := fun X => has_tag' z X
    have HC : Hid (∀ X B, Below w.heap.size w X → X.cell? ⟨B, 0, none⟩ = some (.int .i64 z) → Calls Try.prog 33 #[.slice (some ⟨b1, o1, none⟩) k cap, tagF B] X fun e w' => e = .returned (.bool tw) ∧ Below X.heap.size X w') := fun X B hX hc => by
      have := has_fn (some ⟨b1, o1, none⟩) cap k B (ws.take k) z X ((WSeg.below HS.out.1 hX).take k (by rw [HS.out.2]; omega)) (by rw [List.length_take, HS.out.2]; omega) (by omega) hc
      rw [HTW.out] at this
      exact this
    clear HW
    go_wp2
    go_region_held3 (fun w' => w'.cell? ⟨wr.heap.size, 0, none⟩ = some (.int .i64 z)) (first | exact c6) (first | (go_at_call 34; refine Calls.mono (HH.out _) ?_; rintro u w9 ⟨B9, rfl, hbb, c9⟩; (first | replace hb := hb.trans (hbb.mono hb.size) | replace hb := hb.drew.trans (hbb.mono hb.drew.size)); replace c6 := kept_cell hbb c6; clear hbb) | (go_at_call 33; refine Calls.mono (HC.out _ _ (by first | exact hb | exact hb.drew) c9) ?_; rintro u w8 ⟨rfl, hbb⟩; (first | replace hb := hb.trans (hbb.mono hb.size) | replace hb := hb.drew.trans (hbb.mono hb.drew.size)); replace c6 := kept_cell hbb c6; clear hbb))
    have HB : Hid _ := hb
    clear hb c9 HC HH hsl
    by_cases h1 : z < 0
    · have HF2 : Hid _ := HF.out (fun g => by have := (HRG.out.1 g).1; omega)
      go_wp2
      go_ret
      exact ⟨ret_bool HF2.out, HB.out⟩
    by_cases h2 : 65535 < z
    · have HF2 : Hid _ := HF.out (fun g => by have := (HRG.out.1 g).1; omega)
      go_wp2
      go_ret
      exact ⟨ret_bool HF2.out, HB.out⟩
    cases tw
    · have HT2 : Hid _ := HT.out (HRG.out.2 ⟨by omega, fun j hj e => by
        have := HTK.out.2 ⟨j, hj, e⟩
        rw [HTW.out] at this
        cases this⟩)
      go_wp2
      go_roundw
      case rel => exact ⟨k + 1, by omega, by go_num, HB, HT2⟩
      case measure => simp [intOf]; omega
    · have HF2 : Hid _ := HF.out (fun g => by
        obtain ⟨j, hj, e⟩ := HTK.out.1 HTW.out
        exact (HRG.out.1 g).2 j hj e)
      go_wp2
      go_ret
      exact ⟨ret_bool HF2.out, HB.out⟩
set_option maxHeartbeats 2000000 in
theorem impl_cachek (s y l : Int) (a : Option Addr) (cap n : Nat) (D : Nat → List Wy) (w : World) (hs : RSeg w a n D) (hn : n ≤ 1048576) (ht : tot D n ≤ 1048576) (q : Bool) (hq : q = true ↔ CacheOkP s y l n D) :
    Calls Try.prog 10 #[cch s y l (.slice a n cap)] w fun e w' => e = .returned (.bool q) ∧ Below w.heap.size w w' := by
  have HS : Hid _ := And.intro hs ht
  have HQ : Hid _ := hq
  clear hs ht hq
  by_cases hsh : shapeOk s y l = true
  rotate_left
  · have hsh' : shapeOk s y l = false := by simpa using hsh
    have HF : Hid (false = q) := told_no HQ.out (fun h => hsh h.1)
    clear hsh
    go_enter Try.func10, Try.ntmps10
    go_wp2_with fail
    refine (impl_shok s y l _).mono ?_
    rintro u w1 ⟨rfl, hb1⟩
    rw [hsh']
    have hb := ((Below.refl _ w).alloc (Nat.le_refl _) (.cells #[.int .i64 s, .int .i64 y, .int .i64 l, .slice a n cap] 34)).trans (hb1.mono (by simp))
    go_wp2
    go_ret
    exact ⟨ret_bool HF.out, hb⟩
  obtain ⟨sh, HSH⟩ : ∃ sh, Hid (shapeOk s y l = sh) := ⟨_, rfl⟩
  obtain rfl : sh = true := HSH.out.symm.trans hsh
  clear hsh
  go_enter Try.func10, Try.ntmps10
  go_wp2_with fail
  refine (impl_shok s y l _).mono ?_
  rintro u w1 ⟨rfl, hb1⟩
  rw [HSH.out]
  have hb := ((Below.refl _ w).alloc (Nat.le_refl _) (.cells #[.int .i64 s, .int .i64 y, .int .i64 l, .slice a n cap] 34)).trans (hb1.mono (by simp))
  have B0 := (Bk.new w #[.int .i64 s, .int .i64 y, .int .i64 l, .slice a n cap] 34 w.heap.size rfl).below hb1
  have k0 := B0.cell 0 _ rfl
  have k1 := B0.cell 1 _ rfl
  have k2 := B0.cell 2 _ rfl
  have k3 := B0.cell 3 _ rfl
  have HR : Hid _ := RSeg.below HS.out.1 hb
  have HB : Hid _ := hb
  clear hb hb1 B0
  by_cases hns : (n : Int) = s
  rotate_left
  · have HF : Hid (false = q) := told_no HQ.out (fun h => hns h.2.1)
    have hns' : ((n : Int) == s) = false := by simpa using hns
    clear hns
    go_wp2
    go_ret
    exact ⟨ret_bool HF.out, HB.out⟩
  have HN : Hid (CacheOkP s y l n D ↔ ∀ i, i < n → RowOk y (D i)) := ⟨fun h => h.2.2, fun h => ⟨HSH.out, hns, h⟩⟩
  subst hns
  have HK : Hid _ := And.intro k0 (And.intro k1 k2)
  go_wp2
  clear k0 k1 k2 k3
  go_loopw [21] (fun i wr => ∃ r : Nat, r ≤ n ∧ i = .int .i64 r ∧ Hid (Below w1.heap.size w1 wr) ∧ Hid (∀ j, j < r → RowOk y (D j))) (fun i _ => n - (intOf i).toNat)
  case atStart => exact ⟨0, by omega, rfl, Below.refl _ _, fun j hj => absurd hj (by omega)⟩
  case round =>
    obtain ⟨r, hr, rfl, HW, HJ⟩ := hrel
    by_cases hlt : r < n
    rotate_left
    · obtain rfl : r = n := by omega
      go_wp2
      go_ret
      exact ⟨ret_bool (told_yes HQ.out (HN.out.2 HJ.out)), HB.out.trans (HW.out.mono HB.out.size)⟩
    have k0 := kept_cell HW.out HK.out.1
    have k1 := kept_cell HW.out HK.out.2.1
    have k2 := kept_cell HW.out HK.out.2.2
    have hlt' : (r : Int) < (n : Int) := by omega
    obtain ⟨b1, o1, a1, c1, rfl, hbl1, e1, s1, hc1⟩ := RSeg.at' (w := w1) HR.out r hlt
    replace e1 := kept_cell HW.out e1
    obtain ⟨qr, hqr⟩ := told (RowOk y (D r))
    have HC : Hid _ := impl_rowk (n : Int) y l a1 c1 (D r).length (D r) wr (s1.below HW.out) rfl (Nat.le_trans (tot_row D hlt) HS.out.2) hc1 qr hqr
    have HF : Hid (¬ RowOk y (D r) → false = q) := fun h => told_no HQ.out (fun g => h (HN.out.1 g r hlt))
    have HT : Hid (RowOk y (D r) → ∀ j, j < r + 1 → RowOk y (D j)) := fun g j hj => by
      by_cases e : j = r
      · subst e; exact g
      · exact HJ.out j (by omega)
    have HQR : Hid _ := hqr
    generalize RowOk y (D r) = G at HF HT HQR
    generalize (D r).length = len at e1 HC
    clear s1 hbl1 HJ hqr hc1
    go_wp2_with fail
    refine Calls.mono HC.out ?_
    rintro u w2 ⟨rfl, hbb⟩
    have HW2 : Hid _ := HW.out.trans (hbb.mono HW.out.size)
    clear hbb HW HC k0 k1 k2 e1
    cases qr
    · have HF2 : Hid _ := HF.out (fun g => by have := HQR.out.2 g; cases this)
      go_wp2
      go_ret
      exact ⟨ret_bool HF2.out, HB.out.trans (HW2.out.mono HB.out.size)⟩
    · have HT2 : Hid _ := HT.out (HQR.out.1 rfl)
      go_wp2
      go_roundw
      case rel => exact ⟨r + 1, by omega, by go_num, HW2, HT2⟩
      case measure => simp [intOf]; omega
end Go.Proofs.Ytmbpmhmehiiiaaa
