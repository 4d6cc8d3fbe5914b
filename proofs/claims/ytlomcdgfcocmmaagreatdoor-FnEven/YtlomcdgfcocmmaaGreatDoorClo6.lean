/-
  The rules on entries, devices and channels, by the program. Conditions: what a rule is asked under.
  The rules on channels and slots, by the program. Conditions: what a rule is asked under.
  Whether slots lie in order, by the program. Conditions: what a rule is asked under.
-/
import Derived.Test.YtlomcdgfcocmmaaGreatDoorBas
import Derived.Test.YtlomcdgfcocmmaaGreatDoorRul
import Derived.BigQuiet
import Derived.Deep.RegionHeldLaw
import Derived.Test.YtlomcdgfcocmmaaGreatDoorClo3
namespace Go.Proofs.YtlomcdgfcocmmaaGreatDoor
open Go.ChangeShapes Go.WideShapes Go.ChangeAt Go.RowKit Go.Deep Go.Joins
set_option linter.unusedVariables false

theorem win_run (b s p : Int) (w : World) (h : 1 ≤ p ∧ p ≤ 7) :
    Calls Tryz.prog 183 #[win b s p, .int .i64 4] w fun e w' => e = .returned (.bool (decide (4 ≤ p))) ∧ Below w.heap.size w w' := by
  have hb : Below w.heap.size w (w.alloc (wrow 74 b s p)) := (Below.refl _ _).alloc (Nat.le_refl _) _
  have : p = 1 ∨ p = 2 ∨ p = 3 ∨ p = 4 ∨ p = 5 ∨ p = 6 ∨ p = 7 := by omega
  clear h
  rcases this with rfl | rfl | rfl | rfl | rfl | rfl | rfl <;>
  · go_enter Tryz.func183, Tryz.ntmps183
    go_wp2
    go_ret
    exact ⟨rfl, hb⟩
set_option maxRecDepth 20000 in
set_option maxHeartbeats 4000000 in
theorem t_run1 (x : wiT) (ad : Int) (q : Bool) (B : Nat) (X : World) (hw : WOk x) (hc : X.cell? ⟨B, 0, none⟩ = some (.int .i64 ad)) (hq : q = true ↔ (Has x ad ∧ 4 ≤ x.2.2)) :
    Calls Tryz.prog 181 #[wiV x, .pointer (some ⟨B, 0, none⟩)] X fun e w' => e = .returned (.bool q) ∧ Below X.heap.size X w' := by
  obtain ⟨q1, hq1⟩ := told (Has x ad)
  have HH : Hid (∀ Y, Calls Tryz.prog 182 #[win x.1 x.2.1 x.2.2, .int .i64 ad] Y fun e w' => e = .returned (.bool q1) ∧ Below Y.heap.size Y w') := fun Y => impl_has _ _ _ ad q1 Y hw.fit hq1
  have HR : Hid (∀ Y, Calls Tryz.prog 183 #[win x.1 x.2.1 x.2.2, .int .i64 4] Y fun e w' => e = .returned (.bool (decide (4 ≤ x.2.2))) ∧ Below Y.heap.size Y w') := fun Y => win_run _ _ _ Y ⟨hw.2.2.2.2.2.1, hw.2.2.2.2.2.2⟩
  have HQ1 : Hid (q1 = false → q = false) := fun h => not_true hq (fun g => by rw [hq1.2 g.1] at h; cases h)
  have HQ2 : Hid (q1 = true → decide (4 ≤ x.2.2) = q) := fun h => bool_is hq ⟨fun g => ⟨hq1.1 h, of_decide_eq_true g⟩, fun g => decide_eq_true g.2⟩
  clear hq hq1 hw
  generalize decide (4 ≤ x.2.2) = d at HR HQ2
  obtain ⟨x1, x2, x3⟩ := x
  simp only [wiV] at *
  have HB0 : Hid (Below X.heap.size X (X.alloc (wrow 74 x1 x2 x3))) := (Below.refl _ _).alloc (Nat.le_refl _) _
  have c9 : (X.alloc (wrow 74 x1 x2 x3)).cell? ⟨B, 0, none⟩ = some (.int .i64 ad) := kept_cell HB0.out hc
  have K : Hid (CellsAt (X.alloc (wrow 74 x1 x2 x3)) X.heap.size 0 [.int .i64 x1, .int .i64 x2, .int .i64 x3]) := CellsAt.new X [.int .i64 x1, .int .i64 x2, .int .i64 x3] 74 _ rfl
  clear hc
  go_enter Tryz.func181, Tryz.ntmps181
  go_wp2_with fail
  refine Calls.mono (HH.out _) ?_
  rintro e w1 ⟨rfl, hb1⟩
  have HB1 : Hid (Below X.heap.size X w1) := HB0.out.trans (hb1.mono HB0.out.size)
  have K1 := K.out.below hb1
  have c0 : w1.cell? ⟨X.heap.size, 0, none⟩ = some (.int .i64 x1) := cell0 K1 0 rfl
  have c1 : w1.cell? ⟨X.heap.size, 1, none⟩ = some (.int .i64 x2) := cell0 K1 1 rfl
  have c2 : w1.cell? ⟨X.heap.size, 2, none⟩ = some (.int .i64 x3) := cell0 K1 2 rfl
  clear hb1 K1 c9 K HB0
  cases q1
  · have HT : Hid (q = false) := HQ1.out (by trivial)
    go_wp2
    go_ret
    exact ⟨ret_bool HT.out.symm, HB1.out⟩
  · have HT : Hid (d = q) := HQ2.out (by trivial)
    go_wp2_with fail
    refine Calls.mono (HR.out _) ?_
    rintro e w2 ⟨rfl, hb2⟩
    have HB2 : Hid (Below X.heap.size X w2) := HB1.out.trans (hb2.mono HB1.out.size)
    clear hb2 c0 c1 c2
    go_wp2
    go_ret
    exact ⟨ret_bool HT.out, HB2.out⟩
set_option maxRecDepth 20000 in
theorem e_run1 : ∀ args (v : World), (callFunc 181 args).run Tryz.prog v = .ok (.enter 181 args) v := enters_of Tryz.func181 (by kernel_rfl) rfl
set_option maxRecDepth 20000 in
set_option maxHeartbeats 4000000 in
theorem t_runs (y : Rw) (p : Pt) (ad : Int) (q : Bool) (w : World) (hg : Good 0 w y p) (hn : y.wn ≤ 9223372036854775807) (hw : ∀ j, j < p.ws.length → WOk (p.ws.getD j wi0)) (hq : q = true ↔ ∃ j, j < p.ws.length ∧ Has (p.ws.getD j wi0) ad ∧ 4 ≤ (p.ws.getD j wi0).2.2) :
    Calls Tryz.prog 151 #[rwV y, .int .i64 ad] w fun e w' => e = .returned (.bool q) ∧ Below w.heap.size w w' := by
  obtain ⟨nm, en, kd, ms, wa, wn, wc⟩ := y
  simp only [rwV] at *
  have HB0 : Hid (Below w.heap.size w ((w.alloc (.cells #[.string nm, .int .i64 en, .int .i64 kd, .int .i64 ms, .slice wa wn wc] 72)).alloc (.cells #[.int .i64 ad] 3))) := ((Below.refl _ _).alloc (Nat.le_refl _) _).alloc (by simp) _
  have K0 : Hid (((w.alloc (.cells #[.string nm, .int .i64 en, .int .i64 kd, .int .i64 ms, .slice wa wn wc] 72)).alloc (.cells #[.int .i64 ad] 3)).cell? ⟨w.heap.size + 1, 0, none⟩ = some (.int .i64 ad)) := cell0 (CellsAt.new (w.alloc (.cells #[.string nm, .int .i64 en, .int .i64 kd, .int .i64 ms, .slice wa wn wc] 72)) [.int .i64 ad] 3 (w.heap.size + 1) (by simp)) 0 rfl
  have HC : Hid (Calls Tryz.prog 180 #[.slice wa wn wc, .func (.func 181) #[] #[.pointer (some ⟨w.heap.size + 1, 0, none⟩)]] ((w.alloc (.cells #[.string nm, .int .i64 en, .int .i64 kd, .int .i64 ms, .slice wa wn wc] 72)).alloc (.cells #[.int .i64 ad] 3)) fun e w' => e = .returned (.bool q) ∧ Below ((w.alloc (.cells #[.string nm, .int .i64 en, .int .i64 kd, .int .i64 ms, .slice wa wn wc] 72)).alloc (.cells #[.int .i64 ad] 3)).heap.size ((w.alloc (.cells #[.string nm, .int .i64 en, .int .i64 kd, .int .i64 ms, .slice wa wn wc] 72)).alloc (.cells #[.int .i64 ad] 3)) w') := by
    have hd : ∀ j, ∃ b : Bool, b = true ↔ (Has (p.ws.getD j wi0) ad ∧ 4 ≤ (p.ws.getD j wi0).2.2) := fun j => told _
    have hln : p.ws.length = wn := hg.ln
    exact win_contains wa wc wn p.ws (fun j => (hd j).choose) q 181 #[.pointer (some ⟨w.heap.size + 1, 0, none⟩)] _ (hg.sg.below HB0.out).seg hn e_run1
      (fun j hj Z hZ => t_run1 (p.ws.getD j wi0) ad _ (w.heap.size + 1) Z (hw j (by omega)) (kept_cell hZ K0.out) (hd j).choose_spec)
      (hq.trans ⟨fun ⟨j, hj, h⟩ => ⟨j, by omega, (hd j).choose_spec.2 h⟩, fun ⟨j, hj, h⟩ => ⟨j, by omega, (hd j).choose_spec.1 h⟩⟩)
  clear hg hn hw hq K0
  go_enter Tryz.func151, Tryz.ntmps151
  go_wp2_with fail
  refine Calls.mono HC.out ?_
  rintro e w1 ⟨rfl, hb⟩
  have HB : Hid (Below w.heap.size w w1) := HB0.out.trans (hb.mono HB0.out.size)
  clear hb HC
  go_wp2
  go_ret
  exact ⟨rfl, HB.out⟩
set_option maxRecDepth 20000 in
set_option maxHeartbeats 4000000 in
theorem t_entry (y : Rw) (p : Pt) (q : Bool) (w : World) (hg : Good 0 w y p) (hn : y.wn ≤ 9223372036854775807) (hw : ∀ j, j < p.ws.length → WOk (p.ws.getD j wi0)) (hq : q = true ↔ (p.en % 4 = 0 ∧ ∃ j, j < p.ws.length ∧ Has (p.ws.getD j wi0) p.en ∧ 4 ≤ (p.ws.getD j wi0).2.2)) :
    Calls Tryz.prog 150 #[rwV y] w fun e w' => e = .returned (.bool q) ∧ Below w.heap.size w w' := by
  obtain ⟨qr, hqr⟩ := told (∃ j, j < p.ws.length ∧ Has (p.ws.getD j wi0) p.en ∧ 4 ≤ (p.ws.getD j wi0).2.2)
  have hen : y.en = p.en := hg.en
  have HR : Hid (∀ Y, Below w.heap.size w Y → Calls Tryz.prog 151 #[rwV y, .int .i64 p.en] Y fun e w' => e = .returned (.bool qr) ∧ Below Y.heap.size Y w') := fun Y hY => t_runs y p p.en qr Y (hg.below hY) hn hw hqr
  have HM : Hid _ := tm4 p.en
  have HQ1 : Hid (¬ p.en % 4 = 0 → q = false) := fun h => not_true hq (fun g => h g.1)
  have HQ2 : Hid (p.en % 4 = 0 → qr = q) := fun h => bool_is hq ⟨fun g => ⟨h, hqr.1 g⟩, fun g => hqr.2 g.2⟩
  clear hq hqr hg hn hw
  obtain ⟨nm, en, kd, ms, wa, wn, wc⟩ := y
  simp only [rwV] at hen HR
  rw [← hen] at HR HM HQ1 HQ2
  clear hen
  simp only [rwV]
  have HB0 : Hid (Below w.heap.size w (w.alloc (.cells #[.string nm, .int .i64 en, .int .i64 kd, .int .i64 ms, .slice wa wn wc] 72))) := (Below.refl _ _).alloc (Nat.le_refl _) _
  by_cases h4 : en % 4 = 0
  · have h4' : Int.tmod en 4 = 0 := HM.out.2 h4
    have HT : Hid (qr = q) := HQ2.out h4
    clear HQ1 HQ2 HM
    go_enter Tryz.func150, Tryz.ntmps150
    go_wp2_with fail
    refine Calls.mono (HR.out _ HB0.out) ?_
    rintro e w1 ⟨rfl, hb⟩
    have HB : Hid (Below w.heap.size w w1) := HB0.out.trans (hb.mono HB0.out.size)
    clear hb HR
    rw [HT.out]
    go_wp2
    go_ret
    exact ⟨rfl, HB.out⟩
  · have HT : Hid (q = false) := HQ1.out h4
    have h4' : (Int.tmod en 4 == 0) = false := by
      have : ¬ Int.tmod en 4 = 0 := fun h => h4 (HM.out.1 h)
      simpa using this
    clear HQ1 HQ2 HM h4 HR
    go_enter Tryz.func150, Tryz.ntmps150
    go_wp2
    go_ret
    exact ⟨ret_bool HT.out.symm, HB0.out⟩
set_option maxRecDepth 20000 in
theorem e_entry : ∀ args (v : World), (callFunc 150 args).run Tryz.prog v = .ok (.enter 150 args) v := enters_of Tryz.func150 (by kernel_rfl) rfl
set_option maxRecDepth 40000 in
set_option maxHeartbeats 4000000 in
theorem cl15 (t : Tb) (a : Ad) (B : Nat) (q : Bool) (X : World) (hu : Und X B t a) (hp : ∀ j, j < 15 → R t j) (hq : q = true ↔ R t 15) :
    Calls Tryz.prog 149 #[.pointer (some ⟨B, 0, none⟩)] X fun e w' => e = .returned (.bool q) ∧ Below X.heap.size X w' := by
  have HL : t.ps.length = a.pn := hu.w.pl
  have h13 := hp 13 (by omega)
  simp only [R] at h13
  have hwk : ∀ i, i < a.pn → ∀ j, j < (t.ps.getD i pt0).ws.length → WOk ((t.ps.getD i pt0).ws.getD j wi0) := fun i hi j hj => by
    obtain ⟨k, hk, e⟩ := mem_allW (ps := t.ps) (by omega) hj
    rw [← e]
    exact (h13 k hk).1
  have hd : ∀ i, ∃ b : Bool, b = true ↔ ((t.ps.getD i pt0).en % 4 = 0 ∧ ∃ j, j < (t.ps.getD i pt0).ws.length ∧ Has ((t.ps.getD i pt0).ws.getD j wi0) (t.ps.getD i pt0).en ∧ 4 ≤ ((t.ps.getD i pt0).ws.getD j wi0).2.2) := fun i => told _
  have c0 : X.cell? ⟨B, 15, none⟩ = some (.slice a.pa a.pn a.pc) := hu.x.cell 15 rfl
  have HE : Hid (Calls Tryz.prog 129 #[.slice a.pa a.pn a.pc, .func (.func 150) #[] #[]] X fun e w' => e = .returned (.bool q) ∧ Below X.heap.size X w') :=
    part_every a.pa a.pc a.pn a.Y (fun i => (hd i).choose) q 150 #[] X hu.m.p.1.seg hu.w.pb e_entry (fun i hi Y hY => t_entry (a.Y i) (t.ps.getD i pt0) _ Y ((hu.m.p.2 i hi).below hY) (hu.w.wb i hi).1 (hwk i hi) (hd i).choose_spec)
      (hq.trans (by simp only [R]; rw [HL]; exact ⟨fun h i hi => (hd i).choose_spec.2 (h i hi), fun h i hi => (hd i).choose_spec.1 (h i hi)⟩))
  clear hu hp hq HL h13 hwk hd
  go_enter Tryz.func149, Tryz.ntmps149
  go_wp2_with fail
  refine Calls.mono HE.out ?_
  rintro e w1 ⟨rfl, hb⟩
  have HB : Hid (Below X.heap.size X w1) := hb
  clear hb c0 HE
  go_wp2
  go_ret
  exact ⟨rfl, HB.out⟩
set_option maxRecDepth 40000 in
set_option maxHeartbeats 4000000 in
theorem cl16 (t : Tb) (a : Ad) (B : Nat) (q : Bool) (X : World) (hu : Und X B t a) (hp : ∀ j, j < 16 → R t j) (hq : q = true ↔ R t 16) :
    Calls Tryz.prog 152 #[.pointer (some ⟨B, 0, none⟩)] X fun e w' => e = .returned (.bool q) ∧ Below X.heap.size X w' := by
  have HL : t.ds.length = a.dn := hu.w.dl
  have hb := hu.w.db
  have HQ : Hid (decide ((a.dn : Int) ≤ 8) = q) := bool_is hq (by simp only [R]; rw [HL]; simp; omega)
  have c0 : X.cell? ⟨B, 16, none⟩ = some (.slice a.da a.dn a.dc) := hu.x.cell 16 rfl
  clear hu hp hq HL
  generalize a.dn = n at c0 HQ hb
  generalize hd : decide ((n : Int) ≤ 8) = d at HQ
  go_enter Tryz.func152, Tryz.ntmps152
  go_wp2
  go_ret
  exact ⟨ret_bool HQ.out, Below.refl _ _⟩
set_option maxRecDepth 40000 in
set_option maxHeartbeats 4000000 in
theorem has_part (t : Tb) (a : Ad) (x : Int) (q : Bool) (w : World) (hb : a.pn ≤ 9223372036854775807) (hq : q = true ↔ (0 ≤ x ∧ x < (a.pn : Int))) :
    Calls Tryz.prog 45 #[tbV t a, .int .i64 x] w fun e w' => e = .returned (.bool q) ∧ Below w.heap.size w w' := by
  have HB0 : Hid (Below w.heap.size w (w.alloc (.cells (tbA t a) 33))) := (Below.refl _ _).alloc (Nat.le_refl _) _
  by_cases h0 : 0 ≤ x
  · have HT : Hid (decide (x < (a.pn : Int)) = q) := bool_is hq ⟨fun h => ⟨h0, of_decide_eq_true h⟩, fun h => decide_eq_true h.2⟩
    clear hq
    go_enter Tryz.func45, Tryz.ntmps45
    go_wp2
    go_ret
    exact ⟨ret_bool HT.out, HB0.out⟩
  · have HT : Hid (q = false) := not_true hq (fun h => h0 h.1)
    clear hq
    go_enter Tryz.func45, Tryz.ntmps45
    go_wp2
    go_ret
    exact ⟨ret_bool HT.out.symm, HB0.out⟩
set_option maxRecDepth 20000 in
theorem e_has : ∀ args (v : World), (callFunc 45 args).run Tryz.prog v = .ok (.enter 45 args) v := enters_of Tryz.func45 (by kernel_rfl) rfl
set_option maxRecDepth 40000 in
set_option maxHeartbeats 4000000 in
theorem cl17 (t : Tb) (a : Ad) (B : Nat) (q : Bool) (X : World) (hu : Und X B t a) (hp : ∀ j, j < 17 → R t j) (hq : q = true ↔ R t 17) :
    Calls Tryz.prog 153 #[.pointer (some ⟨B, 0, none⟩)] X fun e w' => e = .returned (.bool q) ∧ Below X.heap.size X w' := by
  have HL : t.ps.length = a.pn := hu.w.pl
  have HD : t.ds.length = a.dn := hu.w.dl
  have hd : ∀ i, ∃ b : Bool, b = true ↔ (0 ≤ t.ds.getD i 0 ∧ t.ds.getD i 0 < (a.pn : Int)) := fun i => told _
  have HXX : Hid (X.heap[B]? = some (.cells (tbA t a) 33 (0, 0))) := hu.x
  have c0 : X.cell? ⟨B, 16, none⟩ = some (.slice a.da a.dn a.dc) := hu.x.cell 16 rfl
  have HE : Hid (Calls Tryz.prog 80 #[.slice a.da a.dn a.dc, .func (.func 45) #[tbV t a] #[]] X fun e w' => e = .returned (.bool q) ∧ Below X.heap.size X w') :=
    in_every a.da a.dc a.dn t.ds (fun i => (hd i).choose) q 45 #[tbV t a] #[] X hu.m.d.seg hu.w.db e_has (fun i hi Y hY => has_part t a _ _ Y hu.w.pb (hd i).choose_spec)
      (hq.trans (by simp only [R]; rw [HL, HD]; exact ⟨fun h i hi => (hd i).choose_spec.2 (h i hi), fun h i hi => (hd i).choose_spec.1 (h i hi)⟩))
  clear hu hp hq HL HD hd
  go_enter Tryz.func153, Tryz.ntmps153
  go_wp2_with (first | (refine wpList_load_row rfl 33 (.tmp 0) rfl B rfl 33 (tbA t a) (0, 0) _ HXX.out Tryz.underlying33 rfl (by kernel_rfl) ?_) | fail)
  refine Calls.mono HE.out ?_
  rintro e w1 ⟨rfl, hb⟩
  have HB : Hid (Below X.heap.size X w1) := hb
  clear hb c0 HE
  go_wp2
  go_ret
  exact ⟨rfl, HB.out⟩
set_option maxRecDepth 40000 in
set_option maxHeartbeats 4000000 in
theorem cl18 (t : Tb) (a : Ad) (B : Nat) (q : Bool) (X : World) (hu : Und X B t a) (hp : ∀ j, j < 18 → R t j) (hq : q = true ↔ R t 18) :
    Calls Tryz.prog 154 #[.pointer (some ⟨B, 0, none⟩)] X fun e w' => e = .returned (.bool q) ∧ Below X.heap.size X w' := by
  have HL : t.cs.length = a.cn := hu.w.cl
  have hb := hu.w.cb
  have HQ : Hid (decide ((a.cn : Int) ≤ 8) = q) := bool_is hq (by simp only [R]; rw [HL]; simp; omega)
  have c0 : X.cell? ⟨B, 17, none⟩ = some (.slice a.ca a.cn a.cc) := hu.x.cell 17 rfl
  clear hu hp hq HL
  generalize a.cn = n at c0 HQ hb
  generalize hd : decide ((n : Int) ≤ 8) = d at HQ
  go_enter Tryz.func154, Tryz.ntmps154
  go_wp2
  go_ret
  exact ⟨ret_bool HQ.out, Below.refl _ _⟩
end Go.Proofs.YtlomcdgfcocmmaaGreatDoor
namespace Go.Proofs.YtlomcdgfcocmmaaGreatDoor
open Go.ChangeShapes Go.WideShapes Go.ChangeAt Go.RowKit Go.Deep Go.Joins
set_option linter.unusedVariables false

set_option maxRecDepth 40000 in
set_option maxHeartbeats 4000000 in
theorem t_chan (t : Tb) (a : Ad) (x : chT) (q : Bool) (B : Nat) (X : World) (hx : TBx X B t a) (hb : a.pn ≤ 9223372036854775807) (hq : q = true ↔ (chOkT x = true ∧ (0 ≤ x.2.1 ∧ x.2.1 < (a.pn : Int)) ∧ (0 ≤ x.2.2.1 ∧ x.2.2.1 < (a.pn : Int)))) :
    Calls Tryz.prog 157 #[chV x, .pointer (some ⟨B, 0, none⟩)] X fun e w' => e = .returned (.bool q) ∧ Below X.heap.size X w' := by
  obtain ⟨q1, HQ1⟩ : ∃ b, Hid (chOkT x = b) := ⟨_, rfl⟩
  obtain ⟨q2, hq2⟩ := told (0 ≤ x.2.1 ∧ x.2.1 < (a.pn : Int))
  obtain ⟨q3, hq3⟩ := told (0 ≤ x.2.2.1 ∧ x.2.2.1 < (a.pn : Int))
  have H1 : Hid (∀ Y, Calls Tryz.prog 158 #[crw x.1 x.2.1 x.2.2.1 x.2.2.2] Y fun e w' => e = .returned (.bool q1) ∧ Below Y.heap.size Y w') := fun Y => impl_chok _ _ _ _ q1 Y HQ1.out
  have H2 : Hid (∀ Y, Calls Tryz.prog 45 #[tbV t a, .int .i64 x.2.1] Y fun e w' => e = .returned (.bool q2) ∧ Below Y.heap.size Y w') := fun Y => has_part t a _ q2 Y hb hq2
  have H3 : Hid (∀ Y, Calls Tryz.prog 45 #[tbV t a, .int .i64 x.2.2.1] Y fun e w' => e = .returned (.bool q3) ∧ Below Y.heap.size Y w') := fun Y => has_part t a _ q3 Y hb hq3
  have HN : Hid (q1 = false ∨ q2 = false ∨ q3 = false → q = false) := fun h => not_true hq (fun g => by
    rcases h with h | h | h
    · rw [← HQ1.out, g.1] at h; cases h
    · rw [hq2.2 g.2.1] at h; cases h
    · rw [hq3.2 g.2.2] at h; cases h)
  have HY : Hid (q1 = true → q2 = true → q3 = true → q = true) := fun h1 h2 h3 => hq.2 ⟨HQ1.out.trans h1, hq2.1 h2, hq3.1 h3⟩
  clear hq hq2 hq3 HQ1
  obtain ⟨x1, x2, x3, x4⟩ := x
  simp only [chV] at *
  have HB0 : Hid (Below X.heap.size X (X.alloc (.cells #[.int .i64 x1, .int .i64 x2, .int .i64 x3, .int .i64 x4] 76))) := (Below.refl _ _).alloc (Nat.le_refl _) _
  have HX : Hid (TBx (X.alloc (.cells #[.int .i64 x1, .int .i64 x2, .int .i64 x3, .int .i64 x4] 76)) B t a ∧ CellsAt (X.alloc (.cells #[.int .i64 x1, .int .i64 x2, .int .i64 x3, .int .i64 x4] 76)) X.heap.size 0 [.int .i64 x1, .int .i64 x2, .int .i64 x3, .int .i64 x4]) := ⟨hx.below HB0.out, CellsAt.new X [.int .i64 x1, .int .i64 x2, .int .i64 x3, .int .i64 x4] 76 _ rfl⟩
  clear hx
  go_enter Tryz.func157, Tryz.ntmps157
  go_wp2_with fail
  refine Calls.mono (H1.out _) ?_
  rintro e w1 ⟨rfl, hb1⟩
  have HB1 : Hid (Below X.heap.size X w1) := HB0.out.trans (hb1.mono HB0.out.size)
  have HX1 : Hid (TBx w1 B t a ∧ CellsAt w1 X.heap.size 0 [.int .i64 x1, .int .i64 x2, .int .i64 x3, .int .i64 x4]) := ⟨HX.out.1.below hb1, HX.out.2.below hb1⟩
  clear hb1 HX HB0 H1
  cases q1
  · have HT : Hid (q = false) := HN.out (.inl (by trivial))
    go_wp2
    go_ret
    exact ⟨ret_bool HT.out.symm, HB1.out⟩
  have HXX : Hid (w1.heap[B]? = some (.cells (tbA t a) 33 (0, 0))) := HX1.out.1
  have d1 : w1.cell? ⟨X.heap.size, 1, none⟩ = some (.int .i64 x2) := cell0 HX1.out.2 1 rfl
  go_wp2_with (first | (refine wpList_load_rowG rfl 33 (.tmp 1) rfl B rfl 33 (tbA t a) (0, 0) _ HXX.out Tryz.underlying33 rfl (by kernel_rfl) ?_) | fail)
  refine Calls.mono (H2.out _) ?_
  rintro e w2 ⟨rfl, hb2⟩
  have HB2 : Hid (Below X.heap.size X w2) := HB1.out.trans (hb2.mono HB1.out.size)
  have HX2 : Hid (TBx w2 B t a ∧ CellsAt w2 X.heap.size 0 [.int .i64 x1, .int .i64 x2, .int .i64 x3, .int .i64 x4]) := ⟨HX1.out.1.below hb2, HX1.out.2.below hb2⟩
  clear hb2 HX1 HB1 H2 d1 HXX
  cases q2
  · have HT : Hid (q = false) := HN.out (.inr (.inl (by trivial)))
    go_wp2
    go_ret
    exact ⟨ret_bool HT.out.symm, HB2.out⟩
  have HXX : Hid (w2.heap[B]? = some (.cells (tbA t a) 33 (0, 0))) := HX2.out.1
  have d2 : w2.cell? ⟨X.heap.size, 2, none⟩ = some (.int .i64 x3) := cell0 HX2.out.2 2 rfl
  go_wp2_with (first | (refine wpList_load_rowG rfl 33 (.tmp 1) rfl B rfl 33 (tbA t a) (0, 0) _ HXX.out Tryz.underlying33 rfl (by kernel_rfl) ?_) | fail)
  refine Calls.mono (H3.out _) ?_
  rintro e w3 ⟨rfl, hb3⟩
  have HB3 : Hid (Below X.heap.size X w3) := HB2.out.trans (hb3.mono HB2.out.size)
  clear hb3 HX2 HB2 H3 d2 HXX
  have HT : Hid (q3 = q) := by
    show _ = _
    cases q3
    · exact (HN.out (.inr (.inr rfl))).symm
    · exact (HY.out (by trivial) (by trivial) rfl).symm
  clear HN HY
  go_wp2
  go_ret
  exact ⟨ret_bool HT.out, HB3.out⟩
set_option maxRecDepth 20000 in
theorem e_chan : ∀ args (v : World), (callFunc 157 args).run Tryz.prog v = .ok (.enter 157 args) v := enters_of Tryz.func157 (by kernel_rfl) rfl
set_option maxRecDepth 40000 in
set_option maxHeartbeats 4000000 in
theorem cl19 (t : Tb) (a : Ad) (B : Nat) (q : Bool) (X : World) (hu : Und X B t a) (hp : ∀ j, j < 19 → R t j) (hq : q = true ↔ R t 19) :
    Calls Tryz.prog 155 #[.pointer (some ⟨B, 0, none⟩)] X fun e w' => e = .returned (.bool q) ∧ Below X.heap.size X w' := by
  have HL : t.ps.length = a.pn := hu.w.pl
  have HD : t.cs.length = a.cn := hu.w.cl
  have hd : ∀ i, ∃ b : Bool, b = true ↔ (chOkT (t.cs.getD i ch0) = true ∧ (0 ≤ (t.cs.getD i ch0).2.1 ∧ (t.cs.getD i ch0).2.1 < (a.pn : Int)) ∧ (0 ≤ (t.cs.getD i ch0).2.2.1 ∧ (t.cs.getD i ch0).2.2.1 < (a.pn : Int))) := fun i => told _
  have c0 : X.cell? ⟨B, 17, none⟩ = some (.slice a.ca a.cn a.cc) := hu.x.cell 17 rfl
  have HE : Hid (Calls Tryz.prog 156 #[.slice a.ca a.cn a.cc, .func (.func 157) #[] #[.pointer (some ⟨B, 0, none⟩)]] X fun e w' => e = .returned (.bool q) ∧ Below X.heap.size X w') :=
    ch_every a.ca a.cc a.cn t.cs (fun i => (hd i).choose) q 157 #[.pointer (some ⟨B, 0, none⟩)] X hu.m.c.seg hu.w.cb e_chan (fun i hi Y hY => t_chan t a _ _ B Y (hu.x.below hY) hu.w.pb (hd i).choose_spec)
      (hq.trans (by simp only [R]; rw [HL, HD]; exact ⟨fun h i hi => (hd i).choose_spec.2 (h i hi), fun h i hi => (hd i).choose_spec.1 (h i hi)⟩))
  clear hu hp hq HL HD hd
  go_enter Tryz.func155, Tryz.ntmps155
  go_wp2_with fail
  refine Calls.mono HE.out ?_
  rintro e w1 ⟨rfl, hb⟩
  have HB : Hid (Below X.heap.size X w1) := hb
  clear hb c0 HE
  go_wp2
  go_ret
  exact ⟨rfl, HB.out⟩
set_option maxRecDepth 40000 in
set_option maxHeartbeats 4000000 in
theorem cov_switch (t : Tb) (a : Ad) (q : Bool) (X : World) (hc : GSeg 4 X a.ca a.cn (chX t.cs)) (hcb : a.cn ≤ 9223372036854775807) (HD : t.cs.length = a.cn) (hpo : padOk t.c1 t.c2 t.c3 t.c4 t.c5 t.c6 t.c7 t.s1 t.s2 t.s3 t.cs a.cn) (hq : q = true ↔ padV t ≤ t.pad) :
    Calls Tryz.prog 160 #[tbV t a] X fun e w' => e = .returned (.bool q) ∧ Below X.heap.size X w' := by
  obtain ⟨v, HV⟩ : ∃ v, Hid (padV t = v) := ⟨_, rfl⟩
  have HQ : Hid (decide (v ≤ t.pad) = q) := bool_is hq (by rw [HV.out]; simp)
  have HB0 : Hid (Below X.heap.size X (X.alloc (.cells (tbA t a) 33))) := (Below.refl _ _).alloc (Nat.le_refl _) _
  have K0 : Hid (Bk (X.alloc (.cells (tbA t a) 33)) X.heap.size (tbA t a)) := Bk.new X _ _ _ rfl
  have HC : Hid (GSeg 4 (X.alloc (.cells (tbA t a) 33)) a.ca a.cn (chX t.cs)) := hc.below HB0.out
  have HW : Hid (∀ x : Gr (X.alloc (.cells (tbA t a) 33)), Calls Tryz.prog 186 #[cst t.c1 t.c2 t.c3 t.c4 t.c5 t.c6 t.c7, shp t.s1 t.s2 t.s3, .slice a.ca a.cn a.cc] x.w fun r w' => r = .returned (.int .i64 v) ∧ Below x.w.heap.size x.w w') := fun x =>
    (impl_pad t.c1 t.c2 t.c3 t.c4 t.c5 t.c6 t.c7 t.s1 t.s2 t.s3 a.ca a.cc a.cn t.cs x.w (HC.out.below x.h) hcb).mono fun e w' ⟨⟨v', g1, g2, _⟩, g4⟩ => ⟨by rw [g1, g2 hpo, ← HV.out]; unfold padV; rw [HD], g4⟩
  have k1 : (X.alloc (.cells (tbA t a) 33)).cell? ⟨X.heap.size, 1, none⟩ = some (.int .i64 t.s1) := K0.out.cell 1 _ rfl
  have k2 : (X.alloc (.cells (tbA t a) 33)).cell? ⟨X.heap.size, 2, none⟩ = some (.int .i64 t.s2) := K0.out.cell 2 _ rfl
  have k3 : (X.alloc (.cells (tbA t a) 33)).cell? ⟨X.heap.size, 3, none⟩ = some (.int .i64 t.s3) := K0.out.cell 3 _ rfl
  have k5 : (X.alloc (.cells (tbA t a) 33)).cell? ⟨X.heap.size, 5, none⟩ = some (.int .i64 t.c1) := K0.out.cell 5 _ rfl
  have k6 : (X.alloc (.cells (tbA t a) 33)).cell? ⟨X.heap.size, 6, none⟩ = some (.int .i64 t.c2) := K0.out.cell 6 _ rfl
  have k7 : (X.alloc (.cells (tbA t a) 33)).cell? ⟨X.heap.size, 7, none⟩ = some (.int .i64 t.c3) := K0.out.cell 7 _ rfl
  have k8 : (X.alloc (.cells (tbA t a) 33)).cell? ⟨X.heap.size, 8, none⟩ = some (.int .i64 t.c4) := K0.out.cell 8 _ rfl
  have k9 : (X.alloc (.cells (tbA t a) 33)).cell? ⟨X.heap.size, 9, none⟩ = some (.int .i64 t.c5) := K0.out.cell 9 _ rfl
  have k10 : (X.alloc (.cells (tbA t a) 33)).cell? ⟨X.heap.size, 10, none⟩ = some (.int .i64 t.c6) := K0.out.cell 10 _ rfl
  have k11 : (X.alloc (.cells (tbA t a) 33)).cell? ⟨X.heap.size, 11, none⟩ = some (.int .i64 t.c7) := K0.out.cell 11 _ rfl
  have k12 : (X.alloc (.cells (tbA t a) 33)).cell? ⟨X.heap.size, 12, none⟩ = some (.int .i64 t.pad) := K0.out.cell 12 _ rfl
  have k17 : (X.alloc (.cells (tbA t a) 33)).cell? ⟨X.heap.size, 17, none⟩ = some (.slice a.ca a.cn a.cc) := K0.out.cell 17 _ rfl
  clear hq hc hcb HD hpo K0 HC
  go_enter Tryz.func160, Tryz.ntmps160
  go_wp2
  generalize (X.alloc (.cells (tbA t a) 33)) = X0 at *
  generalize t.pad = g at k12 HQ
  generalize hd : decide (v ≤ g) = d at HQ
  replace k1 := fun x => gr_cell k1 x
  replace k2 := fun x => gr_cell k2 x
  replace k3 := fun x => gr_cell k3 x
  replace k5 := fun x => gr_cell k5 x
  replace k6 := fun x => gr_cell k6 x
  replace k7 := fun x => gr_cell k7 x
  replace k8 := fun x => gr_cell k8 x
  replace k9 := fun x => gr_cell k9 x
  replace k10 := fun x => gr_cell k10 x
  replace k11 := fun x => gr_cell k11 x
  replace k12 := fun x => gr_cell k12 x
  replace k17 := fun x => gr_cell k17 x
  have hgr := gr_some X0
  refine region_alike (by kernel_rfl) (by kernel_rfl) ?_
  repeat (go_big_quiet_step (first | (go_at_call 186; exact gr_call (HW.out _))))
  refine wpQuiet_nil ?_
  intro _ hw'
  obtain ⟨X1, rfl⟩ := hw'
  have hb2 := X1.h
  generalize X1.w = W1 at hb2 ⊢
  have HB : Hid (Below X.heap.size X W1) := HB0.out.trans (hb2.mono HB0.out.size)
  clear hb2 k1 k2 k3 k5 k6 k7 k8 k9 k10 k11 k12 k17
  go_wp2
  go_ret
  exact ⟨ret_bool HQ.out, HB.out⟩
set_option maxRecDepth 40000 in
set_option maxHeartbeats 4000000 in
theorem cl20 (t : Tb) (a : Ad) (B : Nat) (q : Bool) (X : World) (hu : Und X B t a) (hp : ∀ j, j < 20 → R t j) (hq : q = true ↔ R t 20) :
    Calls Tryz.prog 159 #[.pointer (some ⟨B, 0, none⟩)] X fun e w' => e = .returned (.bool q) ∧ Below X.heap.size X w' := by
  have HD : t.cs.length = a.cn := hu.w.cl
  have h1 := hp 1 (by omega)
  have h3 := hp 3 (by omega)
  have h18 := hp 18 (by omega)
  have h19 := hp 19 (by omega)
  simp only [R] at h1 h3 h18 h19
  have hpo : padOk t.c1 t.c2 t.c3 t.c4 t.c5 t.c6 t.c7 t.s1 t.s2 t.s3 t.cs a.cn := ⟨h3, h1, by omega, fun i hi => (h19 i (by omega)).1⟩
  have HW : Hid (∀ Y, Below X.heap.size X Y → Calls Tryz.prog 160 #[tbV t a] Y fun e w' => e = .returned (.bool q) ∧ Below Y.heap.size Y w') := fun Y hY =>
    cov_switch t a q Y (hu.m.below hY).c.seg hu.w.cb HD hpo hq
  have HXX : Hid (X.heap[B]? = some (.cells (tbA t a) 33 (0, 0))) := hu.x
  clear hu hp hq HD h1 h3 h18 h19 hpo
  go_enter Tryz.func159, Tryz.ntmps159
  go_wp2_with (first | (refine wpList_load_row rfl 33 (.tmp 0) rfl B rfl 33 (tbA t a) (0, 0) _ HXX.out Tryz.underlying33 rfl (by kernel_rfl) ?_) | fail)
  refine (HW.out _ (Below.refl _ _)).mono ?_
  rintro e w1 ⟨rfl, hb⟩
  have HB : Hid (Below X.heap.size X w1) := hb
  clear hb
  go_wp2
  go_ret
  exact ⟨rfl, HB.out⟩
set_option maxRecDepth 40000 in
set_option maxHeartbeats 4000000 in
theorem cl21 (t : Tb) (a : Ad) (B : Nat) (q : Bool) (X : World) (hu : Und X B t a) (hp : ∀ j, j < 21 → R t j) (hq : q = true ↔ R t 21) :
    Calls Tryz.prog 161 #[.pointer (some ⟨B, 0, none⟩)] X fun e w' => e = .returned (.bool q) ∧ Below X.heap.size X w' := by
  have HL : t.ss.length = a.sn := hu.w.sl
  have hpb := hu.w.sb
  have HQ : Hid (inr (a.sn : Int) 1 16 = q) := bool_is hq (by simp only [R]; rw [HL, inr_iff]; omega)
  have c0 : X.cell? ⟨B, 18, none⟩ = some (.slice a.sa a.sn a.sc) := hu.x.cell 18 rfl
  clear hu hp hq HL
  generalize a.sn = n at c0 HQ hpb
  go_enter Tryz.func161, Tryz.ntmps161
  go_wp2_with fail
  refine (is_cnt (n : Int) 16 _).mono ?_
  rintro e w1 ⟨rfl, rfl⟩
  rw [HQ.out]
  go_wp2
  go_ret
  exact ⟨rfl, Below.refl _ _⟩
set_option maxRecDepth 40000 in
set_option maxHeartbeats 4000000 in
theorem t_hold (t : Tb) (a : Ad) (x : slT) (q : Bool) (B : Nat) (X : World) (hx : TBx X B t a) (hb : a.pn ≤ 9223372036854775807) (hq : q = true ↔ (0 ≤ x.1 ∧ x.1 < (a.pn : Int))) :
    Calls Tryz.prog 164 #[slV x, .pointer (some ⟨B, 0, none⟩)] X fun e w' => e = .returned (.bool q) ∧ Below X.heap.size X w' := by
  have H2 : Hid (∀ Y, Calls Tryz.prog 45 #[tbV t a, .int .i64 x.1] Y fun e w' => e = .returned (.bool q) ∧ Below Y.heap.size Y w') := fun Y => has_part t a _ q Y hb hq
  clear hq
  obtain ⟨x1, x2, x3⟩ := x
  simp only [slV] at *
  have HB0 : Hid (Below X.heap.size X (X.alloc (.cells #[.int .i64 x1, .int .i64 x2, .int .i64 x3] 42))) := (Below.refl _ _).alloc (Nat.le_refl _) _
  have HXX : Hid ((X.alloc (.cells #[.int .i64 x1, .int .i64 x2, .int .i64 x3] 42)).heap[B]? = some (.cells (tbA t a) 33 (0, 0))) := hx.below HB0.out
  clear hx
  go_enter Tryz.func164, Tryz.ntmps164
  go_wp2_with (first | (refine wpList_load_row rfl 33 (.tmp 1) rfl B rfl 33 (tbA t a) (0, 0) _ HXX.out Tryz.underlying33 rfl (by kernel_rfl) ?_) | fail)
  refine Calls.mono (H2.out _) ?_
  rintro e w1 ⟨rfl, hb1⟩
  have HB1 : Hid (Below X.heap.size X w1) := HB0.out.trans (hb1.mono HB0.out.size)
  clear hb1 H2 HXX
  go_wp2
  go_ret
  exact ⟨rfl, HB1.out⟩
set_option maxRecDepth 20000 in
theorem e_hold : ∀ args (v : World), (callFunc 164 args).run Tryz.prog v = .ok (.enter 164 args) v := enters_of Tryz.func164 (by kernel_rfl) rfl
set_option maxRecDepth 40000 in
set_option maxHeartbeats 4000000 in
theorem lost_any (t : Tb) (a : Ad) (w : World) (hp : 1 ≤ t.pad ∧ t.pad ≤ 5000) (hg : 1 ≤ t.grd ∧ t.grd ≤ 5000) :
    Calls Tryz.prog 43 #[tbV t a] w fun e w' => e = .returned (.int .i64 (t.pad + t.grd)) ∧ Below w.heap.size w w' := by
  have HB0 : Hid (Below w.heap.size w (w.alloc (.cells (tbA t a) 33))) := (Below.refl _ _).alloc (Nat.le_refl _) _
  have hw : IntKind.i64.wrap (t.pad + t.grd) = t.pad + t.grd := by rw [IntKind.wrap_i64]; omega
  obtain ⟨h1, h2⟩ := hp
  obtain ⟨h3, h4⟩ := hg
  go_enter Tryz.func43, Tryz.ntmps43
  go_wp2
  go_ret
  exact ⟨rfl, HB0.out⟩
set_option maxRecDepth 40000 in
set_option maxHeartbeats 8000000 in
theorem t_long (t : Tb) (a : Ad) (x : slT) (q : Bool) (B : Nat) (X : World) (hx : TBx X B t a) (hp : 1 ≤ t.pad ∧ t.pad ≤ 5000) (hg : 1 ≤ t.grd ∧ t.grd ≤ 5000) (hq : q = true ↔ t.pad + t.grd < x.2.2) :
    Calls Tryz.prog 166 #[slV x, .pointer (some ⟨B, 0, none⟩)] X fun e w' => e = .returned (.bool q) ∧ Below X.heap.size X w' := by
  obtain ⟨v, HV⟩ : ∃ v, Hid (t.pad + t.grd = v) := ⟨_, rfl⟩
  have HL : Hid (∀ Y, Calls Tryz.prog 43 #[tbV t a] Y fun e w' => e = .returned (.int .i64 v) ∧ Below Y.heap.size Y w') := fun Y => by rw [← HV.out]; exact lost_any t a Y hp hg
  rw [HV.out] at hq
  have HQ : Hid (decide (v < x.2.2) = q) := bool_is hq (by simp)
  clear hq HV hp hg
  obtain ⟨x1, x2, x3⟩ := x
  simp only [slV] at *
  generalize hd : decide (v < x3) = d at HQ
  have hb : Below X.heap.size X (X.alloc (.cells #[.int .i64 x1, .int .i64 x2, .int .i64 x3] 42)) := (Below.refl _ _).alloc (Nat.le_refl _) _
  have K := CellsAt.new X [.int .i64 x1, .int .i64 x2, .int .i64 x3] 42 _ rfl
  have d2 : (X.alloc (.cells #[.int .i64 x1, .int .i64 x2, .int .i64 x3] 42)).cell? ⟨X.heap.size, 2, none⟩ = some (.int .i64 x3) := cell0 K 2 rfl
  have hx1 := hx.below hb
  clear K hx
  generalize HW0 : X.alloc (.cells #[.int .i64 x1, .int .i64 x2, .int .i64 x3] 42) = W0 at *
  replace d2 := fun x => gr_cell d2 x
  have HXX : Hid (∀ w, (∃ x : Gr W0, w = x.w) → w.heap[B]? = some (.cells (tbA t a) 33 (0, 0))) := fun w ⟨x, hx⟩ => by rw [hx]; exact hx1.below x.h
  clear hx1
  go_enter Tryz.func166, Tryz.ntmps166
  go_wp2
  clear HW0
  have hgr := gr_some W0
  refine region_alike (by kernel_rfl) (by kernel_rfl) ?_
  repeat (first | (refine wpQuiet_load_row rfl 33 (.tmp 1) rfl B rfl 33 (tbA t a) (0, 0) _ HXX.out Tryz.underlying33 rfl (by kernel_rfl) ?_; simp only [Act.put, List.setIfInBounds_toArray, List.set_cons_zero, List.set_cons_succ]) | go_big_quiet_step (first | (go_at_call 43; exact gr_call (HL.out _))))
  refine wpQuiet_nil ?_
  intro _ hw'
  obtain ⟨x9, rfl⟩ := hw'
  have hb := hb.trans (x9.h.mono hb.size)
  generalize x9.w = W1 at hb ⊢
  have HB : Hid (Below X.heap.size X W1) := hb
  clear hb d2 HXX
  go_wp2
  go_ret
  exact ⟨ret_bool HQ.out, HB.out⟩
set_option maxRecDepth 20000 in
theorem e_long : ∀ args (v : World), (callFunc 166 args).run Tryz.prog v = .ok (.enter 166 args) v := enters_of Tryz.func166 (by kernel_rfl) rfl
set_option maxRecDepth 40000 in
set_option maxHeartbeats 4000000 in
theorem cl22 (t : Tb) (a : Ad) (B : Nat) (q : Bool) (X : World) (hu : Und X B t a) (hp : ∀ j, j < 22 → R t j) (hq : q = true ↔ R t 22) :
    Calls Tryz.prog 162 #[.pointer (some ⟨B, 0, none⟩)] X fun e w' => e = .returned (.bool q) ∧ Below X.heap.size X w' := by
  have HL : t.ps.length = a.pn := hu.w.pl
  have HD : t.ss.length = a.sn := hu.w.sl
  have hd : ∀ i, ∃ b : Bool, b = true ↔ (0 ≤ (t.ss.getD i sl0).1 ∧ (t.ss.getD i sl0).1 < (a.pn : Int)) := fun i => told _
  have c0 : X.cell? ⟨B, 18, none⟩ = some (.slice a.sa a.sn a.sc) := hu.x.cell 18 rfl
  have HE : Hid (Calls Tryz.prog 163 #[.slice a.sa a.sn a.sc, .func (.func 164) #[] #[.pointer (some ⟨B, 0, none⟩)]] X fun e w' => e = .returned (.bool q) ∧ Below X.heap.size X w') :=
    sl_every a.sa a.sc a.sn t.ss (fun i => (hd i).choose) q 164 #[.pointer (some ⟨B, 0, none⟩)] X hu.m.s.seg hu.w.sb e_hold (fun i hi Y hY => t_hold t a _ _ B Y (hu.x.below hY) hu.w.pb (hd i).choose_spec)
      (hq.trans (by simp only [R]; rw [HL, HD]; exact ⟨fun h i hi => (hd i).choose_spec.2 (h i hi), fun h i hi => (hd i).choose_spec.1 (h i hi)⟩))
  clear hu hp hq HL HD hd
  go_enter Tryz.func162, Tryz.ntmps162
  go_wp2_with fail
  refine Calls.mono HE.out ?_
  rintro e w1 ⟨rfl, hb⟩
  have HB : Hid (Below X.heap.size X w1) := hb
  clear hb c0 HE
  go_wp2
  go_ret
  exact ⟨rfl, HB.out⟩
set_option maxRecDepth 40000 in
set_option maxHeartbeats 4000000 in
theorem cl23 (t : Tb) (a : Ad) (B : Nat) (q : Bool) (X : World) (hu : Und X B t a) (hp : ∀ j, j < 23 → R t j) (hq : q = true ↔ R t 23) :
    Calls Tryz.prog 165 #[.pointer (some ⟨B, 0, none⟩)] X fun e w' => e = .returned (.bool q) ∧ Below X.heap.size X w' := by
  have HL : t.ps.length = a.pn := hu.w.pl
  have HD : t.ss.length = a.sn := hu.w.sl
  have hd : ∀ i, ∃ b : Bool, b = true ↔ (t.pad + t.grd < (t.ss.getD i sl0).2.2) := fun i => told _
  have c0 : X.cell? ⟨B, 18, none⟩ = some (.slice a.sa a.sn a.sc) := hu.x.cell 18 rfl
  have HE : Hid (Calls Tryz.prog 163 #[.slice a.sa a.sn a.sc, .func (.func 166) #[] #[.pointer (some ⟨B, 0, none⟩)]] X fun e w' => e = .returned (.bool q) ∧ Below X.heap.size X w') :=
    sl_every a.sa a.sc a.sn t.ss (fun i => (hd i).choose) q 166 #[.pointer (some ⟨B, 0, none⟩)] X hu.m.s.seg hu.w.sb e_long (fun i hi Y hY => t_long t a _ _ B Y (hu.x.below hY) (hp 4 (by omega)) (hp 5 (by omega)) (hd i).choose_spec)
      (hq.trans (by simp only [R]; rw [HD]; exact ⟨fun h i hi => (hd i).choose_spec.2 (h i hi), fun h i hi => (hd i).choose_spec.1 (h i hi)⟩))
  clear hu hp hq HL HD hd
  go_enter Tryz.func165, Tryz.ntmps165
  go_wp2_with fail
  refine Calls.mono HE.out ?_
  rintro e w1 ⟨rfl, hb⟩
  have HB : Hid (Below X.heap.size X w1) := hb
  clear hb c0 HE
  go_wp2
  go_ret
  exact ⟨rfl, HB.out⟩
end Go.Proofs.YtlomcdgfcocmmaaGreatDoor
namespace Go.Proofs.YtlomcdgfcocmmaaGreatDoor
open Go.ChangeShapes Go.WideShapes Go.ChangeAt Go.RowKit Go.Deep Go.Joins
set_option linter.unusedVariables false

theorem slot_end (p s l : Int) (w : World) (h : IntKind.i64.wrap (s + l) = s + l) : Calls Tryz.prog 65 #[.agg #[.int .i64 p, .int .i64 s, .int .i64 l]] w fun e w' => e = .returned (.int .i64 (s + l)) ∧ Below w.heap.size w w' := by
  have HB : Hid (Below w.heap.size w (w.alloc (.cells #[.int .i64 p, .int .i64 s, .int .i64 l] 42))) := (Below.refl _ _).alloc (Nat.le_refl _) _
  go_enter Tryz.func65, Tryz.ntmps65
  go_wp2
  go_ret
  exact ⟨rfl, HB.out⟩
/-- The first m slots lie in order. -/
def OrdTo (ss : List slT) (M : Int) (m : Nat) : Prop := ∀ i, i < m → freeN ss i ≤ (ss.getD i sl0).2.1 ∧ (ss.getD i sl0).2.1 + (ss.getD i sl0).2.2 ≤ M
set_option maxRecDepth 40000 in
set_option maxHeartbeats 4000000 in
theorem in_order0 (t : Tb) (pa da ca sa : Option Addr) (pn pc dn dc cn cc n sc : Nat) (ss : List slT) (q : Bool) (w : World) (hs : GSeg 3 w sa n (slX ss)) (hn : n ≤ 9223372036854775807) (hmj : 1 ≤ t.maj ∧ t.maj ≤ 5000) (hl : ∀ i, i < n → 0 < (ss.getD i sl0).2.2) (hf : ∀ i, i < n → (ss.getD i sl0).2.1 ≤ 9223372036854775807 ∧ -9223372036854775808 ≤ (ss.getD i sl0).2.1) (hq : q = true ↔ OrdTo ss t.maj n) :
    Calls Tryz.prog 168 #[.agg #[.int .i64 t.mem, .int .i64 t.s1, .int .i64 t.s2, .int .i64 t.s3, .int .i64 t.tlb, .int .i64 t.c1, .int .i64 t.c2, .int .i64 t.c3, .int .i64 t.c4, .int .i64 t.c5, .int .i64 t.c6, .int .i64 t.c7, .int .i64 t.pad, .int .i64 t.grd, .int .i64 t.maj, .slice pa pn pc, .slice da dn dc, .slice ca cn cc, .slice sa n sc]] w fun e w' => e = .returned (.bool q) ∧ Below w.heap.size w w' := by
  have HS : Hid (GSeg 3 w sa n (slX ss)) := hs
  have HLF : Hid (∀ i, i < n → 0 < (ss.getD i sl0).2.2 ∧ (ss.getD i sl0).2.1 ≤ 9223372036854775807 ∧ -9223372036854775808 ≤ (ss.getD i sl0).2.1) := fun i hi => ⟨hl i hi, hf i hi⟩
  have HQ : Hid (q = true ↔ OrdTo ss t.maj n) := hq
  have HB0 : Hid (Below w.heap.size w (w.alloc (.cells #[.int .i64 t.mem, .int .i64 t.s1, .int .i64 t.s2, .int .i64 t.s3, .int .i64 t.tlb, .int .i64 t.c1, .int .i64 t.c2, .int .i64 t.c3, .int .i64 t.c4, .int .i64 t.c5, .int .i64 t.c6, .int .i64 t.c7, .int .i64 t.pad, .int .i64 t.grd, .int .i64 t.maj, .slice pa pn pc, .slice da dn dc, .slice ca cn cc, .slice sa n sc] 33))) := (Below.refl _ _).alloc (Nat.le_refl _) _
  have HK0 : Hid ((w.alloc (.cells #[.int .i64 t.mem, .int .i64 t.s1, .int .i64 t.s2, .int .i64 t.s3, .int .i64 t.tlb, .int .i64 t.c1, .int .i64 t.c2, .int .i64 t.c3, .int .i64 t.c4, .int .i64 t.c5, .int .i64 t.c6, .int .i64 t.c7, .int .i64 t.pad, .int .i64 t.grd, .int .i64 t.maj, .slice pa pn pc, .slice da dn dc, .slice ca cn cc, .slice sa n sc] 33)).cell? ⟨w.heap.size, 14, none⟩ = some (.int .i64 t.maj)) := cell0 (CellsAt.new w [.int .i64 t.mem, .int .i64 t.s1, .int .i64 t.s2, .int .i64 t.s3, .int .i64 t.tlb, .int .i64 t.c1, .int .i64 t.c2, .int .i64 t.c3, .int .i64 t.c4, .int .i64 t.c5, .int .i64 t.c6, .int .i64 t.c7, .int .i64 t.pad, .int .i64 t.grd, .int .i64 t.maj, .slice pa pn pc, .slice da dn dc, .slice ca cn cc, .slice sa n sc] 33 _ rfl) 14 rfl
  clear hs hl hf hq
  obtain ⟨hm1, hm2⟩ := hmj
  go_enter Tryz.func168, Tryz.ntmps168
  go_wp2
  go_loopw [3, 9] (fun v i wr => ∃ (m : Nat) (f : Int), m ≤ n ∧ 0 ≤ f ∧ f ≤ 5000 ∧ i = .int .i64 m ∧ v = .int .i64 f ∧ Hid (f = freeN ss m ∧ Below w.heap.size w wr ∧ wr.cell? ⟨w.heap.size, 14, none⟩ = some (.int .i64 t.maj) ∧ OrdTo ss t.maj m)) (fun _ i _ => n - (intOf i).toNat)
  case atStart => exact ⟨0, 0, by omega, by omega, by omega, rfl, rfl, rfl, HB0.out, HK0.out, fun i hi => absurd hi (by omega)⟩
  case round =>
    obtain ⟨m, f, hm, hf0, hf1, rfl, rfl, HR⟩ := hrel
    by_cases hmn : m < n
    rotate_left
    · obtain rfl : m = n := by omega
      have HT : Hid (q = true) := HQ.out.2 HR.out.2.2.2
      go_wp2
      go_ret
      exact ⟨ret_bool HT.out.symm, HR.out.2.1⟩
    have hmn' : (m : Int) < (n : Int) := by omega
    obtain ⟨b1, o1, rfl, hbl1, p1⟩ := HS.out.at m hmn
    replace p1 := p1.of (w' := wr) (fun j => HR.out.2.1.cell (p := ⟨b1, j, none⟩) hbl1)
    have hlf := HLF.out m hmn
    have HNO : Hid (¬ (f ≤ (ss.getD m sl0).2.1 ∧ (ss.getD m sl0).2.1 + (ss.getD m sl0).2.2 ≤ t.maj) → q = false) := fun h => not_true HQ.out (fun g => h (by have := g m hmn; rw [← HR.out.1] at this; exact this))
    have HYS : Hid (f ≤ (ss.getD m sl0).2.1 ∧ (ss.getD m sl0).2.1 + (ss.getD m sl0).2.2 ≤ t.maj → OrdTo ss t.maj (m + 1)) := fun h i hi => by
      by_cases e : i = m
      · subst e; rw [← HR.out.1]; exact h
      · exact HR.out.2.2.2 i (by omega)
    have HFR : Hid (freeN ss (m + 1) = (ss.getD m sl0).2.1 + (ss.getD m sl0).2.2) := rfl
    simp only [slX] at p1
    generalize ss.getD m sl0 = x at p1 hlf HNO HYS HFR
    obtain ⟨c0, c1, c2⟩ := sl_cells p1
    obtain ⟨x1, x2, x3⟩ := x
    simp only at c0 c1 c2 hlf HNO HYS HFR
    obtain ⟨hl0, hx1, hx2⟩ := hlf
    have hal : Below wr.heap.size wr (wr.alloc (.cells #[.int .i64 x1, .int .i64 x2, .int .i64 x3] 42)) := (Below.refl _ _).alloc (Nat.le_refl _) _
    have HBV : Hid (Below w.heap.size w (wr.alloc (.cells #[.int .i64 x1, .int .i64 x2, .int .i64 x3] 42)) ∧ (wr.alloc (.cells #[.int .i64 x1, .int .i64 x2, .int .i64 x3] 42)).cell? ⟨w.heap.size, 14, none⟩ = some (.int .i64 t.maj)) := ⟨HR.out.2.1.trans (hal.mono HR.out.2.1.size), kept_cell hal HR.out.2.2.1⟩
    have k14 := HBV.out.2
    clear p1 hbl1 hal HR
    by_cases h1 : x2 < f
    · have HT : Hid (q = false) := HNO.out (fun h => by omega)
      go_wp2
      go_ret
      exact ⟨ret_bool HT.out.symm, HBV.out.1⟩
    have hw : IntKind.i64.wrap (t.maj - x2) = t.maj - x2 := by rw [IntKind.wrap_i64]; omega
    by_cases h2 : t.maj - x2 < x3
    · have HT : Hid (q = false) := HNO.out (fun h => by omega)
      go_wp2
      go_ret
      exact ⟨ret_bool HT.out.symm, HBV.out.1⟩
    have HT : Hid (OrdTo ss t.maj (m + 1)) := HYS.out (by omega)
    have hwe : IntKind.i64.wrap (x2 + x3) = x2 + x3 := by rw [IntKind.wrap_i64]; omega
    have he0 : 0 ≤ x2 + x3 := by omega
    have he1 : x2 + x3 ≤ 5000 := by omega
    have HEND : Hid (∀ Y, Calls Tryz.prog 65 #[.agg #[.int .i64 x1, .int .i64 x2, .int .i64 x3]] Y fun e w' => e = .returned (.int .i64 (x2 + x3)) ∧ Below Y.heap.size Y w') := fun Y => slot_end x1 x2 x3 Y hwe
    clear HNO HYS
    go_wp2_with fail
    refine Calls.mono (HEND.out _) ?_
    rintro e w2 ⟨rfl, hb2⟩
    have HB2 : Hid (Below w.heap.size w w2 ∧ w2.cell? ⟨w.heap.size, 14, none⟩ = some (.int .i64 t.maj)) := ⟨HBV.out.1.trans (hb2.mono HBV.out.1.size), kept_cell hb2 HBV.out.2⟩
    clear hb2 HBV HEND c0 c1 c2 k14 hw hwe
    generalize x2 + x3 = fe at *
    go_wp2
    go_roundw
    case rel => exact ⟨m + 1, fe, by omega, he0, he1, by go_num, rfl, HFR.out.symm, HB2.out.1, HB2.out.2, HT.out⟩
    case measure => simp [intOf]; omega
set_option maxRecDepth 40000 in
set_option maxHeartbeats 4000000 in
theorem cl24 (t : Tb) (a : Ad) (B : Nat) (q : Bool) (X : World) (hu : Und X B t a) (hp : ∀ j, j < 24 → R t j) (hq : q = true ↔ R t 24) :
    Calls Tryz.prog 167 #[.pointer (some ⟨B, 0, none⟩)] X fun e w' => e = .returned (.bool q) ∧ Below X.heap.size X w' := by
  have HD : t.ss.length = a.sn := hu.w.sl
  have h23 := hp 23 (by omega)
  have h4 : 1 ≤ t.pad ∧ t.pad ≤ 5000 := hp 4 (by omega)
  have h5 : 1 ≤ t.grd ∧ t.grd ≤ 5000 := hp 5 (by omega)
  have h6 : 1 ≤ t.maj ∧ t.maj ≤ 5000 := hp 6 (by omega)
  simp only [R] at h23
  have HXX : Hid (X.heap[B]? = some (.cells (tbA t a) 33 (0, 0))) := hu.x
  have HE : Hid (Calls Tryz.prog 168 #[tbV t a] X fun e w' => e = .returned (.bool q) ∧ Below X.heap.size X w') :=
    in_order0 t a.pa a.da a.ca a.sa a.pn a.pc a.dn a.dc a.cn a.cc a.sn a.sc t.ss q X hu.m.s.seg hu.w.sb h6 (fun i hi => by have := h23 i (by omega); omega) hu.w.sf (hq.trans (by simp only [R, OrdTo]; rw [HD]))
  clear hu hp hq HD h23 h4 h5 h6
  go_enter Tryz.func167, Tryz.ntmps167
  go_wp2_with (first | (refine wpList_load_row rfl 33 (.tmp 0) rfl B rfl 33 (tbA t a) (0, 0) _ HXX.out Tryz.underlying33 rfl (by kernel_rfl) ?_) | fail)
  refine Calls.mono HE.out ?_
  rintro e w1 ⟨rfl, hb⟩
  have HB : Hid (Below X.heap.size X w1) := hb
  clear hb HE HXX
  go_wp2
  go_ret
  exact ⟨rfl, HB.out⟩
end Go.Proofs.YtlomcdgfcocmmaaGreatDoor
