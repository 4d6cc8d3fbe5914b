
/-
  Whether tables are sound: the program's own function. Conditions: the lists lie in memory, the lengths are at most 1048576, the table of extras lies as the program's text lays it.
-/
import Derived.Test.YtofibnmbgfggkaaGreatDoorBas
import Derived.Test.YtofibnmbgfggkaaGreatDoorRl2
import Derived.Test.YtofibnmbgfggkaaGreatDoorClo1
import Derived.Test.YtofibnmbgfggkaaGreatDoorClo2
import Derived.Test.YtofibnmbgfggkaaGreatDoorClo5
import Derived.Test.YtofibnmbgfggkaaGreatDoorClo6
namespace Go.Proofs.YtofibnmbgfggkaaGreatDoor
open Go.ChangeShapes Go.WideShapes Go.ChangeAt Go.RowKit Go.Deep Go.Joins
set_option linter.unusedVariables false

set_option maxRecDepth 40000 in
theorem rule_enters (j : Nat) (hj : j < 25) : ∀ args (v : World), (callFunc (rfid j) args).run Tryz.prog v = .ok (.enter (rfid j) args) v := by
  match j, hj with
  | 0, _ => exact enters_of Tryz.func91 (by kernel_rfl) rfl
  | 1, _ => exact enters_of Tryz.func92 (by kernel_rfl) rfl
  | 2, _ => exact enters_of Tryz.func94 (by kernel_rfl) rfl
  | 3, _ => exact enters_of Tryz.func96 (by kernel_rfl) rfl
  | 4, _ => exact enters_of Tryz.func98 (by kernel_rfl) rfl
  | 5, _ => exact enters_of Tryz.func100 (by kernel_rfl) rfl
  | 6, _ => exact enters_of Tryz.func101 (by kernel_rfl) rfl
  | 7, _ => exact enters_of Tryz.func102 (by kernel_rfl) rfl
  | 8, _ => exact enters_of Tryz.func104 (by kernel_rfl) rfl
  | 9, _ => exact enters_of Tryz.func106 (by kernel_rfl) rfl
  | 10, _ => exact enters_of Tryz.func110 (by kernel_rfl) rfl
  | 11, _ => exact enters_of Tryz.func113 (by kernel_rfl) rfl
  | 12, _ => exact enters_of Tryz.func116 (by kernel_rfl) rfl
  | 13, _ => exact enters_of Tryz.func118 (by kernel_rfl) rfl
  | 14, _ => exact enters_of Tryz.func123 (by kernel_rfl) rfl
  | 15, _ => exact enters_of Tryz.func126 (by kernel_rfl) rfl
  | 16, _ => exact enters_of Tryz.func129 (by kernel_rfl) rfl
  | 17, _ => exact enters_of Tryz.func130 (by kernel_rfl) rfl
  | 18, _ => exact enters_of Tryz.func133 (by kernel_rfl) rfl
  | 19, _ => exact enters_of Tryz.func134 (by kernel_rfl) rfl
  | 20, _ => exact enters_of Tryz.func138 (by kernel_rfl) rfl
  | 21, _ => exact enters_of Tryz.func140 (by kernel_rfl) rfl
  | 22, _ => exact enters_of Tryz.func141 (by kernel_rfl) rfl
  | 23, _ => exact enters_of Tryz.func144 (by kernel_rfl) rfl
  | 24, _ => exact enters_of Tryz.func146 (by kernel_rfl) rfl
  | j + 25, hj => exact absurd hj (by omega)
theorem rule_calls (j : Nat) (hj : j < 25) (t : Tb) (a : Ad) (B : Nat) (q : Bool) (X : World) (hu : Und X B t a) (hcp : a.pn ≤ a.pc) (hp : ∀ i, i < j → R t i) (hq : q = true ↔ R t j) :
    Calls Tryz.prog (rfid j) #[.pointer (some ⟨B, 0, none⟩)] X fun e w' => e = .returned (.bool q) ∧ Below X.heap.size X w' := by
  match j, hj with
  | 0, _ => exact cl0 t a B q X hu hp hq
  | 1, _ => exact cl1 t a B q X hu hp hq
  | 2, _ => exact cl2 t a B q X hu hp hq
  | 3, _ => exact cl3 t a B q X hu hp hq
  | 4, _ => exact cl4 t a B q X hu hp hq
  | 5, _ => exact cl5 t a B q X hu hp hq
  | 6, _ => exact cl6 t a B q X hu hp hq
  | 7, _ => exact cl7 t a B q X hu hp hq
  | 8, _ => exact cl8 t a B q X hu hp hq
  | 9, _ => exact cl9 t a B q X hu hp hq
  | 10, _ => exact cl10 t a B q X hu hp hcp hq
  | 11, _ => exact cl11 t a B q X hu hp hq
  | 12, _ => exact cl12 t a B q X hu hp hq
  | 13, _ => exact cl13 t a B q X hu hp hq
  | 14, _ => exact cl14 t a B q X hu hp hq
  | 15, _ => exact cl15 t a B q X hu hp hq
  | 16, _ => exact cl16 t a B q X hu hp hq
  | 17, _ => exact cl17 t a B q X hu hp hq
  | 18, _ => exact cl18 t a B q X hu hp hq
  | 19, _ => exact cl19 t a B q X hu hp hq
  | 20, _ => exact cl20 t a B q X hu hp hq
  | 21, _ => exact cl21 t a B q X hu hp hq
  | 22, _ => exact cl22 t a B q X hu hp hq
  | 23, _ => exact cl23 t a B q X hu hp hq
  | 24, _ => exact cl24 t a B q X hu hp hq
  | j + 25, hj => exact absurd hj (by omega)
theorem rnm_some (j : Nat) (hj : j < 25) : (rnm j).toList.isEmpty = false := by
  match j, hj with
  | 0, _ => exact Tx.empty_no _ (by decide)
  | 1, _ => exact Tx.empty_no _ (by decide)
  | 2, _ => exact Tx.empty_no _ (by decide)
  | 3, _ => exact Tx.empty_no _ (by decide)
  | 4, _ => exact Tx.empty_no _ (by decide)
  | 5, _ => exact Tx.empty_no _ (by decide)
  | 6, _ => exact Tx.empty_no _ (by decide)
  | 7, _ => exact Tx.empty_no _ (by decide)
  | 8, _ => exact Tx.empty_no _ (by decide)
  | 9, _ => exact Tx.empty_no _ (by decide)
  | 10, _ => exact Tx.empty_no _ (by decide)
  | 11, _ => exact Tx.empty_no _ (by decide)
  | 12, _ => exact Tx.empty_no _ (by decide)
  | 13, _ => exact Tx.empty_no _ (by decide)
  | 14, _ => exact Tx.empty_no _ (by decide)
  | 15, _ => exact Tx.empty_no _ (by decide)
  | 16, _ => exact Tx.empty_no _ (by decide)
  | 17, _ => exact Tx.empty_no _ (by decide)
  | 18, _ => exact Tx.empty_no _ (by decide)
  | 19, _ => exact Tx.empty_no _ (by decide)
  | 20, _ => exact Tx.empty_no _ (by decide)
  | 21, _ => exact Tx.empty_no _ (by decide)
  | 22, _ => exact Tx.empty_no _ (by decide)
  | 23, _ => exact Tx.empty_no _ (by decide)
  | 24, _ => exact Tx.empty_no _ (by decide)
  | j + 25, hj => exact absurd hj (by omega)
set_option maxRecDepth 40000 in
set_option maxHeartbeats 8000000 in
theorem broken_any (t : Tb) (a : Ad) (w : World) (hm : TM 0 w t a) (hw : TW t a) (hs : TS a) (he : TabE w) (hcp : a.pn ≤ a.pc) :
    Calls Tryz.prog 35 #[tbV t a] w fun e w' => (∃ s : ByteArray, e = .returned (.string s) ∧ ((Sd t ∧ s = ByteArray.empty) ∨ (¬ Sd t ∧ s.toList.isEmpty = false))) ∧ Below w.heap.size w w' := by
  have HU : Hid (∀ X, Below w.heap.size w X → TM 0 X t a ∧ TabE X) := fun X hX => ⟨hm.below hX, he.below hX⟩
  have HWS : Hid (TW t a ∧ TS a ∧ a.pn ≤ a.pc) := ⟨hw, hs, hcp⟩
  have HB0 : Hid (Below w.heap.size w (w.alloc (.cells (tbA t a) 40))) := (Below.refl _ _).alloc (Nat.le_refl _) _
  have HX0 : Hid ((w.alloc (.cells (tbA t a) 40)).heap[w.heap.size]? = some (.cells (tbA t a) 40 (0, 0))) := TBx.new w t a _ rfl
  clear hm hw hs he hcp
  go_enter Tryz.func35, Tryz.ntmps35
  go_wp2_with (first | (refine wpList_load_row rfl 40 (.tmp 1) rfl w.heap.size rfl 40 (tbA t a) (0, 0) _ HX0.out Tryz.underlying40 rfl (by kernel_rfl) ?_) | fail)
  refine Calls.mono (rules_any t a _) ?_
  rintro e w1 ⟨⟨A, c, rfl, hru⟩, hb1⟩
  have HB1 : Hid (Below w.heap.size w w1) := HB0.out.trans (hb1.mono HB0.out.size)
  have HRU : Hid (RuL w1 t a A 25 0) := hru
  clear hb1 hru HB0 HX0
  go_wp2
  go_loopw [8] (fun i wr => ∃ m : Nat, m ≤ 25 ∧ i = .int .i64 m ∧ Hid (Below w1.heap.size w1 wr ∧ ∀ j, j < m → R t j)) (fun i _ => 25 - (intOf i).toNat)
  case atStart => exact ⟨0, by omega, rfl, Below.refl _ _, fun i hi => absurd hi (by omega)⟩
  case round =>
    obtain ⟨m, hm, rfl, HR⟩ := hrel
    by_cases hmn : m < 25
    rotate_left
    · obtain rfl : m = 25 := by omega
      have HT : Hid (Sd t) := HR.out.2
      have HBF : Hid (Below w.heap.size w wr) := HB1.out.trans (HR.out.1.mono HB1.out.size)
      clear HR
      go_wp2
      go_ret
      exact ⟨⟨_, rfl, .inl ⟨HT.out, rfl⟩⟩, HBF.out⟩
    have hmn' : (m : Int) < 25 := by omega
    have hrl := HRU.out.below HR.out.1
    obtain ⟨X, hg, hra⟩ := hrl
    obtain ⟨b1, o1, hA, hbl1, p1⟩ := hg.at m hmn
    obtain ⟨B, hB, hX⟩ := hra m hmn
    rw [hX, Nat.zero_add] at p1
    have c0 : wr.cell? ⟨b1, o1 + m * 2, none⟩ = some (.string (rnm m)) := p1 0 _ rfl
    have c1 : wr.cell? ⟨b1, o1 + m * 2 + 1, none⟩ = some (.func (.func (rfid m)) #[] #[.pointer (some ⟨B, 0, none⟩)]) := p1 1 _ rfl
    have HBF : Hid (Below w.heap.size w wr) := HB1.out.trans (HR.out.1.mono HB1.out.size)
    obtain ⟨qm, hqm⟩ := told (R t m)
    have HQM : Hid (qm = true ↔ R t m) := hqm
    have hen := rule_enters m hmn
    have HRC : Hid (∀ Y, Below wr.heap.size wr Y → Calls Tryz.prog (rfid m) #[.pointer (some ⟨B, 0, none⟩)] Y fun e w' => e = .returned (.bool qm) ∧ Below Y.heap.size Y w') := fun Y hY =>
      rule_calls m hmn t a B qm Y ⟨hB.below hY, (HU.out Y (HBF.out.trans (hY.mono HBF.out.size))).1, HWS.out.1, HWS.out.2.1, (HU.out Y (HBF.out.trans (hY.mono HBF.out.size))).2⟩ HWS.out.2.2 HR.out.2 hqm
    have HRS : Hid (R t m → ∀ j, j < m + 1 → R t j) := fun h j hj => by
      by_cases e : j = m
      · subst e; exact h
      · exact HR.out.2 j (by omega)
    have HRB : Hid (Below w1.heap.size w1 wr) := HR.out.1
    have hne := rnm_some m hmn
    have HNE : Hid ((rnm m).toList.isEmpty = false) := hne
    have HNS : Hid (¬ R t m → ¬ Sd t) := fun h g => h (g m hmn)
    clear hg hra hX p1 hbl1 hqm hne HR hB
    generalize rfid m = fid at c1 hen HRC
    generalize rnm m = sm at c0 HNE
    subst hA
    have hal : Below wr.heap.size wr (wr.alloc (.cells #[.string sm, .func (.func fid) #[] #[.pointer (some ⟨B, 0, none⟩)]] 103)) := (Below.refl _ _).alloc (Nat.le_refl _) _
    have HAL : Hid (Below wr.heap.size wr (wr.alloc (.cells #[.string sm, .func (.func fid) #[] #[.pointer (some ⟨B, 0, none⟩)]] 103)) ∧ CellsAt (wr.alloc (.cells #[.string sm, .func (.func fid) #[] #[.pointer (some ⟨B, 0, none⟩)]] 103)) wr.heap.size 0 [.string sm, .func (.func fid) #[] #[.pointer (some ⟨B, 0, none⟩)]]) := ⟨hal, CellsAt.new wr [.string sm, .func (.func fid) #[] #[.pointer (some ⟨B, 0, none⟩)]] 103 _ rfl⟩
    clear hal
    go_wp2_with fail
    refine Calls.mono (HRC.out _ HAL.out.1) ?_
    rintro e w2 ⟨rfl, hb2⟩
    have HB2 : Hid (Below w1.heap.size w1 w2 ∧ Below w.heap.size w w2) := ⟨HRB.out.trans ((HAL.out.1.trans (hb2.mono HAL.out.1.size)).mono HRB.out.size), HBF.out.trans ((HAL.out.1.trans (hb2.mono HAL.out.1.size)).mono HBF.out.size)⟩
    have e0 : w2.cell? ⟨wr.heap.size, 0, none⟩ = some (.string sm) := cell0 (HAL.out.2.below hb2) 0 rfl
    clear hb2 HAL c0 c1 HRC hen HRB HBF
    cases qm
    · have HT : Hid (¬ Sd t) := HNS.out (fun h => by have := HQM.out.2 h; cases this)
      go_wp2
      go_ret
      exact ⟨⟨_, rfl, .inr ⟨HT.out, HNE.out⟩⟩, HB2.out.2⟩
    · have HT : Hid _ := HRS.out (HQM.out.1 (by trivial))
      go_wp2
      go_roundw
      case rel => exact ⟨m + 1, by omega, by go_num, HB2.out.1, HT.out⟩
      case measure => simp [intOf]; omega
set_option maxRecDepth 40000 in
set_option maxHeartbeats 4000000 in
theorem impl_sound (t : Tb) (a : Ad) (q : Bool) (w : World) (hm : TM 0 w t a) (hw : TW t a) (hs : TS a) (he : TabE w) (hcp : a.pn ≤ a.pc) (hq : q = true ↔ Sd t) :
    Calls Tryz.prog 11 #[tbV t a] w fun e w' => e = .returned (.bool q) ∧ Below w.heap.size w w' := by
  have HB0 : Hid (Below w.heap.size w (w.alloc (.cells (tbA t a) 40))) := (Below.refl _ _).alloc (Nat.le_refl _) _
  have HX0 : Hid ((w.alloc (.cells (tbA t a) 40)).heap[w.heap.size]? = some (.cells (tbA t a) 40 (0, 0))) := TBx.new w t a _ rfl
  have HBR : Hid (Calls Tryz.prog 35 #[tbV t a] (w.alloc (.cells (tbA t a) 40)) fun e w' => (∃ s : ByteArray, e = .returned (.string s) ∧ ((Sd t ∧ s = ByteArray.empty) ∨ (¬ Sd t ∧ s.toList.isEmpty = false))) ∧ Below (w.alloc (.cells (tbA t a) 40)).heap.size (w.alloc (.cells (tbA t a) 40)) w') := broken_any t a _ (hm.below HB0.out) hw hs (he.below HB0.out) hcp
  have HQ : Hid (q = true ↔ Sd t) := hq
  clear hm hw hs he hcp hq
  go_enter Tryz.func11, Tryz.ntmps11
  go_wp2_with (first | (refine wpList_load_row rfl 40 (.tmp 1) rfl w.heap.size rfl 40 (tbA t a) (0, 0) _ HX0.out Tryz.underlying40 rfl (by kernel_rfl) ?_) | fail)
  refine Calls.mono HBR.out ?_
  rintro e w1 ⟨⟨s, rfl, hsd⟩, hb1⟩
  have HB1 : Hid (Below w.heap.size w w1) := HB0.out.trans (hb1.mono HB0.out.size)
  clear hb1 HB0 HX0 HBR
  rcases hsd with ⟨h, rfl⟩ | ⟨h, hne⟩
  · have HT : Hid (q = true) := HQ.out.2 h
    clear h HQ
    go_wp2
    go_ret
    exact ⟨ret_bool HT.out.symm, HB1.out⟩
  · have HT : Hid (q = false) := not_true HQ.out h
    clear h HQ
    go_wp2
    go_ret
    exact ⟨ret_bool HT.out.symm, HB1.out⟩
end Go.Proofs.YtofibnmbgfggkaaGreatDoor
