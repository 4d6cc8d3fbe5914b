
/-
  The rules on entries, devices and channels, by the program. Conditions: what a rule is asked under.
-/
import Derived.Test.YtofibnmbgfggkaaGreatDoorBas
import Derived.Test.YtofibnmbgfggkaaGreatDoorRul
import Derived.BigQuiet
import Derived.Deep.RegionHeldLaw
import Derived.Test.YtofibnmbgfggkaaGreatDoorClo3
namespace Go.Proofs.YtofibnmbgfggkaaGreatDoor
open Go.ChangeShapes Go.WideShapes Go.ChangeAt Go.RowKit Go.Deep Go.Joins
set_option linter.unusedVariables false

theorem win_run (b s p : Int) (w : World) (h : 1 ≤ p ∧ p ≤ 7) :
    Calls Tryz.prog 159 #[win b s p, .int .i64 4] w fun e w' => e = .returned (.bool (decide (4 ≤ p))) ∧ Below w.heap.size w w' := by
  have hb : Below w.heap.size w (w.alloc (wrow 89 b s p)) := (Below.refl _ _).alloc (Nat.le_refl _) _
  have : p = 1 ∨ p = 2 ∨ p = 3 ∨ p = 4 ∨ p = 5 ∨ p = 6 ∨ p = 7 := by omega
  clear h
  rcases this with rfl | rfl | rfl | rfl | rfl | rfl | rfl <;>
  · go_enter Tryz.func159, Tryz.ntmps159
    go_wp2
    go_ret
    exact ⟨rfl, hb⟩
set_option maxRecDepth 20000 in
set_option maxHeartbeats 4000000 in
theorem t_run1 (x : wiT) (ad : Int) (q : Bool) (B : Nat) (X : World) (hw : WOk x) (hc : X.cell? ⟨B, 0, none⟩ = some (.int .i64 ad)) (hq : q = true ↔ (Has x ad ∧ 4 ≤ x.2.2)) :
    Calls Tryz.prog 158 #[wiV x, .pointer (some ⟨B, 0, none⟩)] X fun e w' => e = .returned (.bool q) ∧ Below X.heap.size X w' := by
  obtain ⟨q1, hq1⟩ := told (Has x ad)
  have HH : Hid (∀ Y, Calls Tryz.prog 66 #[win x.1 x.2.1 x.2.2, .int .i64 ad] Y fun e w' => e = .returned (.bool q1) ∧ Below Y.heap.size Y w') := fun Y => impl_has _ _ _ ad q1 Y hw.fit hq1
  have HR : Hid (∀ Y, Calls Tryz.prog 159 #[win x.1 x.2.1 x.2.2, .int .i64 4] Y fun e w' => e = .returned (.bool (decide (4 ≤ x.2.2))) ∧ Below Y.heap.size Y w') := fun Y => win_run _ _ _ Y ⟨hw.2.2.2.2.2.1, hw.2.2.2.2.2.2⟩
  have HQ1 : Hid (q1 = false → q = false) := fun h => not_true hq (fun g => by rw [hq1.2 g.1] at h; cases h)
  have HQ2 : Hid (q1 = true → decide (4 ≤ x.2.2) = q) := fun h => bool_is hq ⟨fun g => ⟨hq1.1 h, of_decide_eq_true g⟩, fun g => decide_eq_true g.2⟩
  clear hq hq1 hw
  generalize decide (4 ≤ x.2.2) = d at HR HQ2
  obtain ⟨x1, x2, x3⟩ := x
  simp only [wiV] at *
  have HB0 : Hid (Below X.heap.size X (X.alloc (wrow 89 x1 x2 x3))) := (Below.refl _ _).alloc (Nat.le_refl _) _
  have c9 : (X.alloc (wrow 89 x1 x2 x3)).cell? ⟨B, 0, none⟩ = some (.int .i64 ad) := kept_cell HB0.out hc
  have K : Hid (CellsAt (X.alloc (wrow 89 x1 x2 x3)) X.heap.size 0 [.int .i64 x1, .int .i64 x2, .int .i64 x3]) := CellsAt.new X [.int .i64 x1, .int .i64 x2, .int .i64 x3] 89 _ rfl
  clear hc
  go_enter Tryz.func158, Tryz.ntmps158
  go_wp2_with fail
  refine Calls.mono (HH.out _) ?_
  rintro e w1 ⟨rfl, hb1⟩
  have HB1 : Hid (Below X.heap.size X w1) := HB0.out.trans (hb1.mono HB0.out.size)
  have K1 := K.out.below hb1
  have c0 : w1.cell? ⟨X.heap.size, 0, none⟩ = some (.int .i64 x1) := cell0 K1 0 rfl
  have c1 : w1.cell? ⟨X.heap.size, 1, none⟩ = some (.int .i64 x2) := cell0 K1 1 rfl
  have c2 : w1.cell? ⟨X.heap.size, 2, none⟩ = some (.int .i64 x3) := cell0 K1 2 rfl
  clear hb1 K1 c9 K HB0
  cases q1
  · have HT : Hid (q = false) := HQ1.out (by trivial)
    go_wp2
    go_ret
    exact ⟨ret_bool HT.out.symm, HB1.out⟩
  · have HT : Hid (d = q) := HQ2.out (by trivial)
    go_wp2_with fail
    refine Calls.mono (HR.out _) ?_
    rintro e w2 ⟨rfl, hb2⟩
    have HB2 : Hid (Below X.heap.size X w2) := HB1.out.trans (hb2.mono HB1.out.size)
    clear hb2 c0 c1 c2
    go_wp2
    go_ret
    exact ⟨ret_bool HT.out, HB2.out⟩
set_option maxRecDepth 20000 in
theorem e_run1 : ∀ args (v : World), (callFunc 158 args).run Tryz.prog v = .ok (.enter 158 args) v := enters_of Tryz.func158 (by kernel_rfl) rfl
set_option maxRecDepth 20000 in
set_option maxHeartbeats 4000000 in
theorem t_runs (y : Rw) (p : Pt) (ad : Int) (q : Bool) (w : World) (hg : Good 0 w y p) (hn : y.wn ≤ 9223372036854775807) (hw : ∀ j, j < p.ws.length → WOk (p.ws.getD j wi0)) (hq : q = true ↔ ∃ j, j < p.ws.length ∧ Has (p.ws.getD j wi0) ad ∧ 4 ≤ (p.ws.getD j wi0).2.2) :
    Calls Tryz.prog 128 #[rwV y, .int .i64 ad] w fun e w' => e = .returned (.bool q) ∧ Below w.heap.size w w' := by
  obtain ⟨nm, en, kd, ms, wa, wn, wc⟩ := y
  simp only [rwV] at *
  have HB0 : Hid (Below w.heap.size w ((w.alloc (.cells #[.string nm, .int .i64 en, .int .i64 kd, .int .i64 ms, .slice wa wn wc] 73)).alloc (.cells #[.int .i64 ad] 3))) := ((Below.refl _ _).alloc (Nat.le_refl _) _).alloc (by simp) _
  have K0 : Hid (((w.alloc (.cells #[.string nm, .int .i64 en, .int .i64 kd, .int .i64 ms, .slice wa wn wc] 73)).alloc (.cells #[.int .i64 ad] 3)).cell? ⟨w.heap.size + 1, 0, none⟩ = some (.int .i64 ad)) := cell0 (CellsAt.new (w.alloc (.cells #[.string nm, .int .i64 en, .int .i64 kd, .int .i64 ms, .slice wa wn wc] 73)) [.int .i64 ad] 3 (w.heap.size + 1) (by simp)) 0 rfl
  have HC : Hid (Calls Tryz.prog 157 #[.slice wa wn wc, .func (.func 158) #[] #[.pointer (some ⟨w.heap.size + 1, 0, none⟩)]] ((w.alloc (.cells #[.string nm, .int .i64 en, .int .i64 kd, .int .i64 ms, .slice wa wn wc] 73)).alloc (.cells #[.int .i64 ad] 3)) fun e w' => e = .returned (.bool q) ∧ Below ((w.alloc (.cells #[.string nm, .int .i64 en, .int .i64 kd, .int .i64 ms, .slice wa wn wc] 73)).alloc (.cells #[.int .i64 ad] 3)).heap.size ((w.alloc (.cells #[.string nm, .int .i64 en, .int .i64 kd, .int .i64 ms, .slice wa wn wc] 73)).alloc (.cells #[.int .i64 ad] 3)) w') := by
    have hd : ∀ j, ∃ b : Bool, b = true ↔ (Has (p.ws.getD j wi0) ad ∧ 4 ≤ (p.ws.getD j wi0).2.2) := fun j => told _
    have hln : p.ws.length = wn := hg.ln
    exact win_contains wa wc wn p.ws (fun j => (hd j).choose) q 158 #[.pointer (some ⟨w.heap.size + 1, 0, none⟩)] _ (hg.sg.below HB0.out).seg hn e_run1
      (fun j hj Z hZ => t_run1 (p.ws.getD j wi0) ad _ (w.heap.size + 1) Z (hw j (by omega)) (kept_cell hZ K0.out) (hd j).choose_spec)
      (hq.trans ⟨fun ⟨j, hj, h⟩ => ⟨j, by omega, (hd j).choose_spec.2 h⟩, fun ⟨j, hj, h⟩ => ⟨j, by omega, (hd j).choose_spec.1 h⟩⟩)
  clear hg hn hw hq K0
  go_enter Tryz.func128, Tryz.ntmps128
  go_wp2_with fail
  refine Calls.mono HC.out ?_
  rintro e w1 ⟨rfl, hb⟩
  have HB : Hid (Below w.heap.size w w1) := HB0.out.trans (hb.mono HB0.out.size)
  clear hb HC
  go_wp2
  go_ret
  exact ⟨rfl, HB.out⟩
set_option maxRecDepth 20000 in
set_option maxHeartbeats 4000000 in
theorem t_entry (y : Rw) (p : Pt) (q : Bool) (w : World) (hg : Good 0 w y p) (hn : y.wn ≤ 9223372036854775807) (hw : ∀ j, j < p.ws.length → WOk (p.ws.getD j wi0)) (hq : q = true ↔ (p.en % 4 = 0 ∧ ∃ j, j < p.ws.length ∧ Has (p.ws.getD j wi0) p.en ∧ 4 ≤ (p.ws.getD j wi0).2.2)) :
    Calls Tryz.prog 127 #[rwV y] w fun e w' => e = .returned (.bool q) ∧ Below w.heap.size w w' := by
  obtain ⟨qr, hqr⟩ := told (∃ j, j < p.ws.length ∧ Has (p.ws.getD j wi0) p.en ∧ 4 ≤ (p.ws.getD j wi0).2.2)
  have hen : y.en = p.en := hg.en
  have HR : Hid (∀ Y, Below w.heap.size w Y → Calls Tryz.prog 128 #[rwV y, .int .i64 p.en] Y fun e w' => e = .returned (.bool qr) ∧ Below Y.heap.size Y w') := fun Y hY => t_runs y p p.en qr Y (hg.below hY) hn hw hqr
  have HM : Hid _ := tm4 p.en
  have HQ1 : Hid (¬ p.en % 4 = 0 → q = false) := fun h => not_true hq (fun g => h g.1)
  have HQ2 : Hid (p.en % 4 = 0 → qr = q) := fun h => bool_is hq ⟨fun g => ⟨h, hqr.1 g⟩, fun g => hqr.2 g.2⟩
  clear hq hqr hg hn hw
  obtain ⟨nm, en, kd, ms, wa, wn, wc⟩ := y
  simp only [rwV] at hen HR
  rw [← hen] at HR HM HQ1 HQ2
  clear hen
  simp only [rwV]
  have HB0 : Hid (Below w.heap.size w (w.alloc (.cells #[.string nm, .int .i64 en, .int .i64 kd, .int .i64 ms, .slice wa wn wc] 73))) := (Below.refl _ _).alloc (Nat.le_refl _) _
  by_cases h4 : en % 4 = 0
  · have h4' : Int.tmod en 4 = 0 := HM.out.2 h4
    have HT : Hid (qr = q) := HQ2.out h4
    clear HQ1 HQ2 HM
    go_enter Tryz.func127, Tryz.ntmps127
    go_wp2_with fail
    refine Calls.mono (HR.out _ HB0.out) ?_
    rintro e w1 ⟨rfl, hb⟩
    have HB : Hid (Below w.heap.size w w1) := HB0.out.trans (hb.mono HB0.out.size)
    clear hb HR
    rw [HT.out]
    go_wp2
    go_ret
    exact ⟨rfl, HB.out⟩
  · have HT : Hid (q = false) := HQ1.out h4
    have h4' : (Int.tmod en 4 == 0) = false := by
      have : ¬ Int.tmod en 4 = 0 := fun h => h4 (HM.out.1 h)
      simpa using this
    clear HQ1 HQ2 HM h4 HR
    go_enter Tryz.func127, Tryz.ntmps127
    go_wp2
    go_ret
    exact ⟨ret_bool HT.out.symm, HB0.out⟩
set_option maxRecDepth 20000 in
theorem e_entry : ∀ args (v : World), (callFunc 127 args).run Tryz.prog v = .ok (.enter 127 args) v := enters_of Tryz.func127 (by kernel_rfl) rfl
set_option maxRecDepth 40000 in
set_option maxHeartbeats 4000000 in
theorem cl15 (t : Tb) (a : Ad) (B : Nat) (q : Bool) (X : World) (hu : Und X B t a) (hp : ∀ j, j < 15 → R t j) (hq : q = true ↔ R t 15) :
    Calls Tryz.prog 126 #[.pointer (some ⟨B, 0, none⟩)] X fun e w' => e = .returned (.bool q) ∧ Below X.heap.size X w' := by
  have HL : t.ps.length = a.pn := hu.w.pl
  have h13 := hp 13 (by omega)
  simp only [R] at h13
  have hwk : ∀ i, i < a.pn → ∀ j, j < (t.ps.getD i pt0).ws.length → WOk ((t.ps.getD i pt0).ws.getD j wi0) := fun i hi j hj => by
    obtain ⟨k, hk, e⟩ := mem_allW (ps := t.ps) (by omega) hj
    rw [← e]
    exact (h13 k hk).1
  have hd : ∀ i, ∃ b : Bool, b = true ↔ ((t.ps.getD i pt0).en % 4 = 0 ∧ ∃ j, j < (t.ps.getD i pt0).ws.length ∧ Has ((t.ps.getD i pt0).ws.getD j wi0) (t.ps.getD i pt0).en ∧ 4 ≤ ((t.ps.getD i pt0).ws.getD j wi0).2.2) := fun i => told _
  have c0 : X.cell? ⟨B, 15, none⟩ = some (.slice a.pa a.pn a.pc) := hu.x.cell 15 rfl
  have HE : Hid (Calls Tryz.prog 107 #[.slice a.pa a.pn a.pc, .func (.func 127) #[] #[]] X fun e w' => e = .returned (.bool q) ∧ Below X.heap.size X w') :=
    part_every a.pa a.pc a.pn a.Y (fun i => (hd i).choose) q 127 #[] X hu.m.p.1.seg hu.w.pb e_entry (fun i hi Y hY => t_entry (a.Y i) (t.ps.getD i pt0) _ Y ((hu.m.p.2 i hi).below hY) (hu.w.wb i hi).1 (hwk i hi) (hd i).choose_spec)
      (hq.trans (by simp only [R]; rw [HL]; exact ⟨fun h i hi => (hd i).choose_spec.2 (h i hi), fun h i hi => (hd i).choose_spec.1 (h i hi)⟩))
  clear hu hp hq HL h13 hwk hd
  go_enter Tryz.func126, Tryz.ntmps126
  go_wp2_with fail
  refine Calls.mono HE.out ?_
  rintro e w1 ⟨rfl, hb⟩
  have HB : Hid (Below X.heap.size X w1) := hb
  clear hb c0 HE
  go_wp2
  go_ret
  exact ⟨rfl, HB.out⟩
set_option maxRecDepth 40000 in
set_option maxHeartbeats 4000000 in
theorem cl16 (t : Tb) (a : Ad) (B : Nat) (q : Bool) (X : World) (hu : Und X B t a) (hp : ∀ j, j < 16 → R t j) (hq : q = true ↔ R t 16) :
    Calls Tryz.prog 129 #[.pointer (some ⟨B, 0, none⟩)] X fun e w' => e = .returned (.bool q) ∧ Below X.heap.size X w' := by
  have HL : t.ds.length = a.dn := hu.w.dl
  have hb := hu.w.db
  have HQ : Hid (decide ((a.dn : Int) ≤ 8) = q) := bool_is hq (by simp only [R]; rw [HL]; simp; omega)
  have c0 : X.cell? ⟨B, 16, none⟩ = some (.slice a.da a.dn a.dc) := hu.x.cell 16 rfl
  clear hu hp hq HL
  generalize a.dn = n at c0 HQ hb
  generalize hd : decide ((n : Int) ≤ 8) = d at HQ
  go_enter Tryz.func129, Tryz.ntmps129
  go_wp2
  go_ret
  exact ⟨ret_bool HQ.out, Below.refl _ _⟩
set_option maxRecDepth 40000 in
set_option maxHeartbeats 4000000 in
theorem has_part (t : Tb) (a : Ad) (x : Int) (q : Bool) (w : World) (hb : a.pn ≤ 9223372036854775807) (hq : q = true ↔ (0 ≤ x ∧ x < (a.pn : Int))) :
    Calls Tryz.prog 132 #[tbV t a, .int .i64 x] w fun e w' => e = .returned (.bool q) ∧ Below w.heap.size w w' := by
  have HB0 : Hid (Below w.heap.size w (w.alloc (.cells (tbA t a) 40))) := (Below.refl _ _).alloc (Nat.le_refl _) _
  by_cases h0 : 0 ≤ x
  · have HT : Hid (decide (x < (a.pn : Int)) = q) := bool_is hq ⟨fun h => ⟨h0, of_decide_eq_true h⟩, fun h => decide_eq_true h.2⟩
    clear hq
    go_enter Tryz.func132, Tryz.ntmps132
    go_wp2
    go_ret
    exact ⟨ret_bool HT.out, HB0.out⟩
  · have HT : Hid (q = false) := not_true hq (fun h => h0 h.1)
    clear hq
    go_enter Tryz.func132, Tryz.ntmps132
    go_wp2
    go_ret
    exact ⟨ret_bool HT.out.symm, HB0.out⟩
set_option maxRecDepth 20000 in
theorem e_has : ∀ args (v : World), (callFunc 132 args).run Tryz.prog v = .ok (.enter 132 args) v := enters_of Tryz.func132 (by kernel_rfl) rfl
set_option maxRecDepth 40000 in
set_option maxHeartbeats 4000000 in
theorem cl17 (t : Tb) (a : Ad) (B : Nat) (q : Bool) (X : World) (hu : Und X B t a) (hp : ∀ j, j < 17 → R t j) (hq : q = true ↔ R t 17) :
    Calls Tryz.prog 130 #[.pointer (some ⟨B, 0, none⟩)] X fun e w' => e = .returned (.bool q) ∧ Below X.heap.size X w' := by
  have HL : t.ps.length = a.pn := hu.w.pl
  have HD : t.ds.length = a.dn := hu.w.dl
  have hd : ∀ i, ∃ b : Bool, b = true ↔ (0 ≤ t.ds.getD i 0 ∧ t.ds.getD i 0 < (a.pn : Int)) := fun i => told _
  have HXX : Hid (X.heap[B]? = some (.cells (tbA t a) 40 (0, 0))) := hu.x
  have c0 : X.cell? ⟨B, 16, none⟩ = some (.slice a.da a.dn a.dc) := hu.x.cell 16 rfl
  have HE : Hid (Calls Tryz.prog 131 #[.slice a.da a.dn a.dc, .func (.func 132) #[tbV t a] #[]] X fun e w' => e = .returned (.bool q) ∧ Below X.heap.size X w') :=
    in_every a.da a.dc a.dn t.ds (fun i => (hd i).choose) q 132 #[tbV t a] #[] X hu.m.d.seg hu.w.db e_has (fun i hi Y hY => has_part t a _ _ Y hu.w.pb (hd i).choose_spec)
      (hq.trans (by simp only [R]; rw [HL, HD]; exact ⟨fun h i hi => (hd i).choose_spec.2 (h i hi), fun h i hi => (hd i).choose_spec.1 (h i hi)⟩))
  clear hu hp hq HL HD hd
  go_enter Tryz.func130, Tryz.ntmps130
  go_wp2_with (first | (refine wpList_load_row rfl 40 (.tmp 0) rfl B rfl 40 (tbA t a) (0, 0) _ HXX.out Tryz.underlying40 rfl (by kernel_rfl) ?_) | fail)
  refine Calls.mono HE.out ?_
  rintro e w1 ⟨rfl, hb⟩
  have HB : Hid (Below X.heap.size X w1) := hb
  clear hb c0 HE
  go_wp2
  go_ret
  exact ⟨rfl, HB.out⟩
set_option maxRecDepth 40000 in
set_option maxHeartbeats 4000000 in
theorem cl18 (t : Tb) (a : Ad) (B : Nat) (q : Bool) (X : World) (hu : Und X B t a) (hp : ∀ j, j < 18 → R t j) (hq : q = true ↔ R t 18) :
    Calls Tryz.prog 133 #[.pointer (some ⟨B, 0, none⟩)] X fun e w' => e = .returned (.bool q) ∧ Below X.heap.size X w' := by
  have HL : t.cs.length = a.cn := hu.w.cl
  have hb := hu.w.cb
  have HQ : Hid (decide ((a.cn : Int) ≤ 8) = q) := bool_is hq (by simp only [R]; rw [HL]; simp; omega)
  have c0 : X.cell? ⟨B, 17, none⟩ = some (.slice a.ca a.cn a.cc) := hu.x.cell 17 rfl
  clear hu hp hq HL
  generalize a.cn = n at c0 HQ hb
  generalize hd : decide ((n : Int) ≤ 8) = d at HQ
  go_enter Tryz.func133, Tryz.ntmps133
  go_wp2
  go_ret
  exact ⟨ret_bool HQ.out, Below.refl _ _⟩
end Go.Proofs.YtofibnmbgfggkaaGreatDoor
