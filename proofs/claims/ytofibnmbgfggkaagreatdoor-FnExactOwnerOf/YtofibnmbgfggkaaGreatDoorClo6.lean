
/-
  Whether slots lie in order, by the program. Conditions: what a rule is asked under.
-/
import Derived.Test.YtofibnmbgfggkaaGreatDoorBas
import Derived.Test.YtofibnmbgfggkaaGreatDoorRul
import Derived.BigQuiet
import Derived.Deep.RegionHeldLaw
import Derived.Test.YtofibnmbgfggkaaGreatDoorClo4
import Derived.Test.YtofibnmbgfggkaaGreatDoorLrw
namespace Go.Proofs.YtofibnmbgfggkaaGreatDoor
open Go.ChangeShapes Go.WideShapes Go.ChangeAt Go.RowKit Go.Deep Go.Joins
set_option linter.unusedVariables false

theorem slot_end (p s l : Int) (w : World) (h : IntKind.i64.wrap (s + l) = s + l) : Calls Tryz.prog 164 #[.agg #[.int .i64 p, .int .i64 s, .int .i64 l]] w fun e w' => e = .returned (.int .i64 (s + l)) ∧ Below w.heap.size w w' := by
  have HB : Hid (Below w.heap.size w (w.alloc (.cells #[.int .i64 p, .int .i64 s, .int .i64 l] 67))) := (Below.refl _ _).alloc (Nat.le_refl _) _
  go_enter Tryz.func164, Tryz.ntmps164
  go_wp2
  go_ret
  exact ⟨rfl, HB.out⟩
/-- The first m slots lie in order. -/
def OrdTo (ss : List slT) (M : Int) (m : Nat) : Prop := ∀ i, i < m → freeN ss i ≤ (ss.getD i sl0).2.1 ∧ (ss.getD i sl0).2.1 + (ss.getD i sl0).2.2 ≤ M
set_option maxRecDepth 40000 in
set_option maxHeartbeats 4000000 in
theorem in_order0 (t : Tb) (pa da ca sa : Option Addr) (pn pc dn dc cn cc n sc : Nat) (ss : List slT) (q : Bool) (w : World) (hs : GSeg 3 w sa n (slX ss)) (hn : n ≤ 9223372036854775807) (hmj : 1 ≤ t.maj ∧ t.maj ≤ 5000) (hl : ∀ i, i < n → 0 < (ss.getD i sl0).2.2) (hf : ∀ i, i < n → (ss.getD i sl0).2.1 ≤ 9223372036854775807 ∧ -9223372036854775808 ≤ (ss.getD i sl0).2.1) (hq : q = true ↔ OrdTo ss t.maj n) :
    Calls Tryz.prog 147 #[.agg #[.int .i64 t.mem, .int .i64 t.s1, .int .i64 t.s2, .int .i64 t.s3, .int .i64 t.tlb, .int .i64 t.c1, .int .i64 t.c2, .int .i64 t.c3, .int .i64 t.c4, .int .i64 t.c5, .int .i64 t.c6, .int .i64 t.c7, .int .i64 t.pad, .int .i64 t.grd, .int .i64 t.maj, .slice pa pn pc, .slice da dn dc, .slice ca cn cc, .slice sa n sc]] w fun e w' => e = .returned (.bool q) ∧ Below w.heap.size w w' := by
  have HS : Hid (GSeg 3 w sa n (slX ss)) := hs
  have HLF : Hid (∀ i, i < n → 0 < (ss.getD i sl0).2.2 ∧ (ss.getD i sl0).2.1 ≤ 9223372036854775807 ∧ -9223372036854775808 ≤ (ss.getD i sl0).2.1) := fun i hi => ⟨hl i hi, hf i hi⟩
  have HQ : Hid (q = true ↔ OrdTo ss t.maj n) := hq
  have HB0 : Hid (Below w.heap.size w (w.alloc (.cells #[.int .i64 t.mem, .int .i64 t.s1, .int .i64 t.s2, .int .i64 t.s3, .int .i64 t.tlb, .int .i64 t.c1, .int .i64 t.c2, .int .i64 t.c3, .int .i64 t.c4, .int .i64 t.c5, .int .i64 t.c6, .int .i64 t.c7, .int .i64 t.pad, .int .i64 t.grd, .int .i64 t.maj, .slice pa pn pc, .slice da dn dc, .slice ca cn cc, .slice sa n sc] 40))) := (Below.refl _ _).alloc (Nat.le_refl _) _
  have HK0 : Hid ((w.alloc (.cells #[.int .i64 t.mem, .int .i64 t.s1, .int .i64 t.s2, .int .i64 t.s3, .int .i64 t.tlb, .int .i64 t.c1, .int .i64 t.c2, .int .i64 t.c3, .int .i64 t.c4, .int .i64 t.c5, .int .i64 t.c6, .int .i64 t.c7, .int .i64 t.pad, .int .i64 t.grd, .int .i64 t.maj, .slice pa pn pc, .slice da dn dc, .slice ca cn cc, .slice sa n sc] 40)).cell? ⟨w.heap.size, 14, none⟩ = some (.int .i64 t.maj)) := cell0 (CellsAt.new w [.int .i64 t.mem, .int .i64 t.s1, .int .i64 t.s2, .int .i64 t.s3, .int .i64 t.tlb, .int .i64 t.c1, .int .i64 t.c2, .int .i64 t.c3, .int .i64 t.c4, .int .i64 t.c5, .int .i64 t.c6, .int .i64 t.c7, .int .i64 t.pad, .int .i64 t.grd, .int .i64 t.maj, .slice pa pn pc, .slice da dn dc, .slice ca cn cc, .slice sa n sc] 40 _ rfl) 14 rfl
  clear hs hl hf hq
  obtain ⟨hm1, hm2⟩ := hmj
  go_enter Tryz.func147, Tryz.ntmps147
  go_wp2
  go_loopw [3, 9] (fun v i wr => ∃ (m : Nat) (f : Int), m ≤ n ∧ 0 ≤ f ∧ f ≤ 5000 ∧ i = .int .i64 m ∧ v = .int .i64 f ∧ Hid (f = freeN ss m ∧ Below w.heap.size w wr ∧ wr.cell? ⟨w.heap.size, 14, none⟩ = some (.int .i64 t.maj) ∧ OrdTo ss t.maj m)) (fun _ i _ => n - (intOf i).toNat)
  case atStart => exact ⟨0, 0, by omega, by omega, by omega, rfl, rfl, rfl, HB0.out, HK0.out, fun i hi => absurd hi (by omega)⟩
  case round =>
    obtain ⟨m, f, hm, hf0, hf1, rfl, rfl, HR⟩ := hrel
    by_cases hmn : m < n
    rotate_left
    · obtain rfl : m = n := by omega
      have HT : Hid (q = true) := HQ.out.2 HR.out.2.2.2
      go_wp2
      go_ret
      exact ⟨ret_bool HT.out.symm, HR.out.2.1⟩
    have hmn' : (m : Int) < (n : Int) := by omega
    obtain ⟨b1, o1, rfl, hbl1, p1⟩ := HS.out.at m hmn
    replace p1 := p1.of (w' := wr) (fun j => HR.out.2.1.cell (p := ⟨b1, j, none⟩) hbl1)
    have hlf := HLF.out m hmn
    have HNO : Hid (¬ (f ≤ (ss.getD m sl0).2.1 ∧ (ss.getD m sl0).2.1 + (ss.getD m sl0).2.2 ≤ t.maj) → q = false) := fun h => not_true HQ.out (fun g => h (by have := g m hmn; rw [← HR.out.1] at this; exact this))
    have HYS : Hid (f ≤ (ss.getD m sl0).2.1 ∧ (ss.getD m sl0).2.1 + (ss.getD m sl0).2.2 ≤ t.maj → OrdTo ss t.maj (m + 1)) := fun h i hi => by
      by_cases e : i = m
      · subst e; rw [← HR.out.1]; exact h
      · exact HR.out.2.2.2 i (by omega)
    have HFR : Hid (freeN ss (m + 1) = (ss.getD m sl0).2.1 + (ss.getD m sl0).2.2) := rfl
    simp only [slX] at p1
    generalize ss.getD m sl0 = x at p1 hlf HNO HYS HFR
    obtain ⟨c0, c1, c2⟩ := sl_cells p1
    obtain ⟨x1, x2, x3⟩ := x
    simp only at c0 c1 c2 hlf HNO HYS HFR
    obtain ⟨hl0, hx1, hx2⟩ := hlf
    have hal : Below wr.heap.size wr (wr.alloc (.cells #[.int .i64 x1, .int .i64 x2, .int .i64 x3] 67)) := (Below.refl _ _).alloc (Nat.le_refl _) _
    have HBV : Hid (Below w.heap.size w (wr.alloc (.cells #[.int .i64 x1, .int .i64 x2, .int .i64 x3] 67)) ∧ (wr.alloc (.cells #[.int .i64 x1, .int .i64 x2, .int .i64 x3] 67)).cell? ⟨w.heap.size, 14, none⟩ = some (.int .i64 t.maj)) := ⟨HR.out.2.1.trans (hal.mono HR.out.2.1.size), kept_cell hal HR.out.2.2.1⟩
    have k14 := HBV.out.2
    clear p1 hbl1 hal HR
    by_cases h1 : x2 < f
    · have HT : Hid (q = false) := HNO.out (fun h => by omega)
      go_wp2
      go_ret
      exact ⟨ret_bool HT.out.symm, HBV.out.1⟩
    have hw : IntKind.i64.wrap (t.maj - x2) = t.maj - x2 := by rw [IntKind.wrap_i64]; omega
    by_cases h2 : t.maj - x2 < x3
    · have HT : Hid (q = false) := HNO.out (fun h => by omega)
      go_wp2
      go_ret
      exact ⟨ret_bool HT.out.symm, HBV.out.1⟩
    have HT : Hid (OrdTo ss t.maj (m + 1)) := HYS.out (by omega)
    have hwe : IntKind.i64.wrap (x2 + x3) = x2 + x3 := by rw [IntKind.wrap_i64]; omega
    have he0 : 0 ≤ x2 + x3 := by omega
    have he1 : x2 + x3 ≤ 5000 := by omega
    have HEND : Hid (∀ Y, Calls Tryz.prog 164 #[.agg #[.int .i64 x1, .int .i64 x2, .int .i64 x3]] Y fun e w' => e = .returned (.int .i64 (x2 + x3)) ∧ Below Y.heap.size Y w') := fun Y => slot_end x1 x2 x3 Y hwe
    clear HNO HYS
    go_wp2_with fail
    refine Calls.mono (HEND.out _) ?_
    rintro e w2 ⟨rfl, hb2⟩
    have HB2 : Hid (Below w.heap.size w w2 ∧ w2.cell? ⟨w.heap.size, 14, none⟩ = some (.int .i64 t.maj)) := ⟨HBV.out.1.trans (hb2.mono HBV.out.1.size), kept_cell hb2 HBV.out.2⟩
    clear hb2 HBV HEND c0 c1 c2 k14 hw hwe
    generalize x2 + x3 = fe at *
    go_wp2
    go_roundw
    case rel => exact ⟨m + 1, fe, by omega, he0, he1, by go_num, rfl, HFR.out.symm, HB2.out.1, HB2.out.2, HT.out⟩
    case measure => simp [intOf]; omega
set_option maxRecDepth 40000 in
set_option maxHeartbeats 4000000 in
theorem cl24 (t : Tb) (a : Ad) (B : Nat) (q : Bool) (X : World) (hu : Und X B t a) (hp : ∀ j, j < 24 → R t j) (hq : q = true ↔ R t 24) :
    Calls Tryz.prog 146 #[.pointer (some ⟨B, 0, none⟩)] X fun e w' => e = .returned (.bool q) ∧ Below X.heap.size X w' := by
  have HD : t.ss.length = a.sn := hu.w.sl
  have h23 := hp 23 (by omega)
  have h4 : 1 ≤ t.pad ∧ t.pad ≤ 5000 := hp 4 (by omega)
  have h5 : 1 ≤ t.grd ∧ t.grd ≤ 5000 := hp 5 (by omega)
  have h6 : 1 ≤ t.maj ∧ t.maj ≤ 5000 := hp 6 (by omega)
  simp only [R] at h23
  have HXX : Hid (X.heap[B]? = some (.cells (tbA t a) 40 (0, 0))) := hu.x
  have HE : Hid (Calls Tryz.prog 147 #[tbV t a] X fun e w' => e = .returned (.bool q) ∧ Below X.heap.size X w') :=
    in_order0 t a.pa a.da a.ca a.sa a.pn a.pc a.dn a.dc a.cn a.cc a.sn a.sc t.ss q X hu.m.s.seg hu.w.sb h6 (fun i hi => by have := h23 i (by omega); omega) hu.w.sf (hq.trans (by simp only [R, OrdTo]; rw [HD]))
  clear hu hp hq HD h23 h4 h5 h6
  go_enter Tryz.func146, Tryz.ntmps146
  go_wp2_with (first | (refine wpList_load_row rfl 40 (.tmp 0) rfl B rfl 40 (tbA t a) (0, 0) _ HXX.out Tryz.underlying40 rfl (by kernel_rfl) ?_) | fail)
  refine Calls.mono HE.out ?_
  rintro e w1 ⟨rfl, hb⟩
  have HB : Hid (Below X.heap.size X w1) := hb
  clear hb HE HXX
  go_wp2
  go_ret
  exact ⟨rfl, HB.out⟩
end Go.Proofs.YtofibnmbgfggkaaGreatDoor
