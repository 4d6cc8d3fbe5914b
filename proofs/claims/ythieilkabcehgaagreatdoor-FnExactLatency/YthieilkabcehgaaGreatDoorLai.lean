
/-
  How long a partition waits at most, by the program. Conditions: the lists lie in memory; the program's table of extras holds what the program's text lays.
-/
import Derived.Test.YthieilkabcehgaaGreatDoorBas
import Derived.Test.YthieilkabcehgaaGreatDoorLat
import Derived.Test.YthieilkabcehgaaGreatDoorTid
import Derived.Test.YthieilkabcehgaaGreatDoorTio
import Derived.Test.YthieilkabcehgaaGreatDoorTiu
import Derived.Test.YthieilkabcehgaaGreatDoorRl3
import Derived.Deep.LoopGhost
namespace Go.Proofs.YthieilkabcehgaaGreatDoor
open Go.ChangeShapes Go.WideShapes Go.ChangeAt Go.RowKit Go.Deep Go.Joins
set_option linter.unusedVariables false

namespace La
set_option maxRecDepth 40000 in
set_option maxHeartbeats 4000000 in
theorem run_of2 (t : Tb) (a : Ad) (x1 x2 x3 : Int) (w : World) (hp : 1 ≤ t.pad ∧ t.pad ≤ 5000) (hg : 1 ≤ t.grd ∧ t.grd ≤ 5000) (hx : 0 ≤ x2 ∧ 0 ≤ x3 ∧ x2 + x3 ≤ 1000000) :
    Calls Tryz.prog 89 #[tbV t a, .agg #[.int .i64 x1, .int .i64 x2, .int .i64 x3]] w fun e w' => e = .returned (.tuple #[.int .i64 (x2 + t.pad), .int .i64 (x2 + x3 - t.grd)]) ∧ Below w.heap.size w w' := by
  have HE : Hid (∀ Y, Calls Tryz.prog 74 #[.agg #[.int .i64 x1, .int .i64 x2, .int .i64 x3]] Y fun e w' => e = .returned (.int .i64 (x2 + x3)) ∧ Below Y.heap.size Y w') := fun Y => slot_end x1 x2 x3 Y (by rw [IntKind.wrap_i64]; omega)
  obtain ⟨z, HZ⟩ : ∃ z, Hid (x2 + x3 = z) := ⟨_, rfl⟩
  rw [HZ.out] at HE hx ⊢
  have HB0 : Hid (Below w.heap.size w (w.alloc (.cells (tbA t a) 39))) := (Below.refl _ _).alloc (Nat.le_refl _) _
  have HX0 : Hid (TBx (w.alloc (.cells (tbA t a) 39)) w.heap.size t a) := TBx.new w t a _ rfl
  have hbV : Below (w.alloc (.cells (tbA t a) 39)).heap.size (w.alloc (.cells (tbA t a) 39)) ((w.alloc (.cells (tbA t a) 39)).alloc (.cells #[.int .i64 x1, .int .i64 x2, .int .i64 x3] 59)) := (Below.refl _ _).alloc (Nat.le_refl _) _
  have HBV : Hid (Below w.heap.size w ((w.alloc (.cells (tbA t a) 39)).alloc (.cells #[.int .i64 x1, .int .i64 x2, .int .i64 x3] 59))) := HB0.out.trans (hbV.mono HB0.out.size)
  have k12 : ((w.alloc (.cells (tbA t a) 39)).alloc (.cells #[.int .i64 x1, .int .i64 x2, .int .i64 x3] 59)).cell? ⟨w.heap.size, 12, none⟩ = some (.int .i64 t.pad) := (HX0.out.below hbV).cell 12 rfl
  have k13 : ((w.alloc (.cells (tbA t a) 39)).alloc (.cells #[.int .i64 x1, .int .i64 x2, .int .i64 x3] 59)).cell? ⟨w.heap.size, 13, none⟩ = some (.int .i64 t.grd) := (HX0.out.below hbV).cell 13 rfl
  have K : Hid (CellsAt ((w.alloc (.cells (tbA t a) 39)).alloc (.cells #[.int .i64 x1, .int .i64 x2, .int .i64 x3] 59)) (w.heap.size + 1) 0 [.int .i64 x1, .int .i64 x2, .int .i64 x3]) := CellsAt.new _ [.int .i64 x1, .int .i64 x2, .int .i64 x3] _ (w.heap.size + 1) (by simp)
  have c0 := cell0 K.out 0 rfl
  have c1 := cell0 K.out 1 rfl
  have c2 := cell0 K.out 2 rfl
  have hw1 : IntKind.i64.wrap (x2 + t.pad) = x2 + t.pad := by rw [IntKind.wrap_i64]; have := HZ.out; omega
  have hw2 : IntKind.i64.wrap (z - t.grd) = z - t.grd := by rw [IntKind.wrap_i64]; have := HZ.out; omega
  clear hbV HB0 HX0 K hx hp hg HZ
  go_enter Tryz.func89, Tryz.ntmps89
  go_wp2
  revert HBV k12 k13 c0 c1 c2
  generalize (w.alloc (.cells (tbA t a) 39)).alloc (.cells #[.int .i64 x1, .int .i64 x2, .int .i64 x3] 59) = V
  intro HBV k12 k13 c0 c1 c2
  have G12 := fun Y => gr_cell (W0 := V) k12 Y
  have G13 := fun Y => gr_cell (W0 := V) k13 Y
  have G0 := fun Y => gr_cell (W0 := V) c0 Y
  have G1 := fun Y => gr_cell (W0 := V) c1 Y
  have G2 := fun Y => gr_cell (W0 := V) c2 Y
  have hgr := gr_some V
  refine region_alike (by kernel_rfl) (by kernel_rfl) ?_
  repeat (go_big_quiet_step (first | (go_at_call 74; exact gr_call (HE.out _))))
  refine wpQuiet_nil ?_
  intro _ hw'
  obtain ⟨X1, rfl⟩ := hw'
  have HB2 : Hid (Below w.heap.size w X1.w) := HBV.out.trans (X1.h.mono HBV.out.size)
  generalize X1.w = W2 at HB2 ⊢
  clear G12 G13 G0 G1 G2 HE hgr k12 k13 c0 c1 c2 HBV
  try rw [hw1]
  try rw [hw2]
  go_wp2
  exact bodyPost_ret (v := .tuple #[.int .i64 (x2 + t.pad), .int .i64 (z - t.grd)]) (by simp [results, Tryz.results89, go_sem]) rfl ⟨rfl, HB2.out⟩
/-- The turn behind the one at hand, found in whatever order the tables and the turn are read. -/
structure RgT (t : Tb) (a : Ad) (n0 : Nat) (W0 : World) (NS : Nat) (y1 r y3 : Int) (w' : World) (b0 b1 b2 b3 b4 : Bool) (x38 x39 x40 x41 : Value) : Prop where
  cs : b4 = true → b0 = true ∧ b1 = true ∧ b2 = true ∧ b3 = true
  gb : Below n0 W0 w'
  pre : b4 = false → Below W0.heap.size W0 w'
  f0 : b0 = true → x38 = tbV t a
  f1 : b1 = true → x39 = .agg #[.int .i64 y1, .int .i64 r, .int .i64 y3]
  f2 : b2 = true → x40 = .int .i64 (r + y3)
  f3 : b3 = true → ∃ (k : Nat) (s : Int), x41 = .agg #[.int .i64 (t.ss.getD k sl0).1, .int .i64 s, .int .i64 (t.ss.getD k sl0).2.2] ∧ TN t (r + y3) k s ∧ (b4 = true → SRow w' NS #[.int .i64 (t.ss.getD k sl0).1, .int .i64 s, .int .i64 (t.ss.getD k sl0).2.2])
theorem RgT.below {t : Tb} {a : Ad} {n0 : Nat} {W0 : World} {NS : Nat} {y1 r y3 : Int} {w' w9 : World} {b0 b1 b2 b3 b4 : Bool} {x38 x39 x40 x41 : Value} (h : RgT t a n0 W0 NS y1 r y3 w' b0 b1 b2 b3 b4 x38 x39 x40 x41) (hl : b4 = false) (hn : n0 ≤ W0.heap.size) (hb : Below w'.heap.size w' w9) : RgT t a n0 W0 NS y1 r y3 w9 b0 b1 b2 b3 b4 x38 x39 x40 x41 :=
  ⟨h.cs, h.gb.trans (hb.mono (Nat.le_trans hn (h.pre hl).size)), fun _ => (h.pre hl).trans (hb.mono (h.pre hl).size), h.f0, h.f1, h.f2, fun g => by
    obtain ⟨k, s, e1, e2, _⟩ := h.f3 g
    exact ⟨k, s, e1, e2, fun q => absurd (hl.symm.trans q) Bool.false_ne_true⟩⟩
set_option maxRecDepth 40000 in
set_option maxHeartbeats 16000000 in
theorem longest (t : Tb) (a : Ad) (p : Int) (w : World) (hm : TM 0 w t a) (hw : TW t a) (hs : TS a) (hcs : a.sn ≤ a.sc) (ht : Tm t) :
    Calls Tryz.prog 62 #[tbV t a, .int .i64 p] w fun e w' => (∃ r : Int, e = .returned (.int .i64 r) ∧ LN t p t.ss.length r) ∧ Below w.heap.size w w' := by
  have HTM : Hid (Tm t) := ht
  have HL : Hid (t.ss.length = a.sn) := hw.sl
  have hn : a.sn ≤ 1048576 := hs.s
  have hn16 : a.sn ≤ 16 := by have := ht.n2; have := hw.sl; omega
  have HSL : Hid (∀ X, Below w.heap.size w X → GSeg 3 X a.sa a.sn (slX t.ss)) := fun X hX => (hm.below hX).s.seg
  have HNT : Hid (∀ c : Int, 0 ≤ c → c ≤ 1000000 → ∀ X, Below w.heap.size w X → Calls Tryz.prog 90 #[tbV t a, .int .i64 c] X fun e w' => (∃ (i : Nat) (r : Int), e = .returned (.agg #[.int .i64 (t.ss.getD i sl0).1, .int .i64 r, .int .i64 (t.ss.getD i sl0).2.2]) ∧ TN t c i r) ∧ Below X.heap.size X w') := fun c h1 h2 X hX => next_turn t a c X (hm.below hX) hw hs hcs ht h1 h2
  have HRO : Hid (∀ (x1 x2 x3 : Int), 0 ≤ x2 → 0 ≤ x3 → x2 + x3 ≤ 1000000 → ∀ X, Calls Tryz.prog 89 #[tbV t a, .agg #[.int .i64 x1, .int .i64 x2, .int .i64 x3]] X fun e w' => e = .returned (.tuple #[.int .i64 (x2 + t.pad), .int .i64 (x2 + x3 - t.grd)]) ∧ Below X.heap.size X w') := fun x1 x2 x3 h1 h2 h3 X => run_of2 t a x1 x2 x3 X ⟨ht.pad1, ht.pad2⟩ ⟨ht.grd1, ht.grd2⟩ ⟨h1, h2, h3⟩
  have HEN : Hid (∀ (x1 x2 x3 : Int), 0 ≤ x2 → 0 ≤ x3 → x2 + x3 ≤ 1000000 → ∀ Y, Calls Tryz.prog 74 #[.agg #[.int .i64 x1, .int .i64 x2, .int .i64 x3]] Y fun e w' => e = .returned (.int .i64 (x2 + x3)) ∧ Below Y.heap.size Y w') := fun x1 x2 x3 h1 h2 h3 Y => slot_end x1 x2 x3 Y (by rw [IntKind.wrap_i64]; omega)
  have hpd := ht.pad1
  have hpd2 := ht.pad2
  have hgd := ht.grd1
  have hgd2 := ht.grd2
  have hmj := ht.maj1
  have hmj2 := ht.maj2
  have HB0 : Hid (Below w.heap.size w (w.alloc (.cells (tbA t a) 39))) := (Below.refl _ _).alloc (Nat.le_refl _) _
  have HX0 : Hid (TBx (w.alloc (.cells (tbA t a) 39)) w.heap.size t a) := TBx.new w t a _ rfl
  have k18 : (w.alloc (.cells (tbA t a) 39)).cell? ⟨w.heap.size, 18, none⟩ = some (.slice a.sa a.sn a.sc) := HX0.out.cell 18 rfl
  clear hm hw hs hcs ht
  go_enter Tryz.func62, Tryz.ntmps62
  go_wp2
  go_step3
  go_wp2
  go_step3
  go_wp2
  clear k18
  go_loopg [5, 15] a.sn (fun g vL vi wr => ∃ (i : Nat) (L : Int), i + g = a.sn ∧ vL = .int .i64 L ∧ vi = .int .i64 i ∧ -1 ≤ L ∧ L ≤ 30000 ∧ Hid (LN t p i L) ∧ Hid (Below w.heap.size w wr) ∧ Hid (TBx wr w.heap.size t a))
  case atStart => exact ⟨0, -1, by omega, rfl, rfl, by omega, by omega, LN.zero t p, HB0.out, HX0.out⟩
  case round =>
    clear HB0 HX0
    obtain ⟨i, L, hig, rfl, rfl, hL1, hL2, HLN, HBW, HXW⟩ := hrel
    cases gk with
    | zero =>
      have hiz : ¬ ((i : Int) < (a.sn : Int)) := by omega
      have HE : Hid (LN t p t.ss.length L) := by
        show LN _ _ _ _
        rw [HL.out, ← show i = a.sn by omega]
        exact HLN.out
      clear HLN
      go_wp2
      try rw [Exit.noGoto_ret]
      go_ret
      exact ⟨⟨_, rfl, HE.out⟩, HBW.out⟩
    | succ g =>
      have hiz : ((i : Int) < (a.sn : Int)) := by omega
      have hil : i < a.sn := by omega
      have HI : Hid (i < t.ss.length) := by have := HL.out; show _ < _; omega
      have k18 : wr.cell? ⟨w.heap.size, 18, none⟩ = some (.slice a.sa a.sn a.sc) := HXW.out.cell 18 rfl
      obtain ⟨b1, o1, hsa, hbl1, p1⟩ := (HSL.out _ HBW.out).at i hil
      rw [hsa] at k18
      simp only [slX] at p1
      obtain ⟨c0, c1, c2⟩ := sl_cells p1
      have hst := HTM.out.st i HI.out
      have hln := HTM.out.ln i HI.out
      have hen := HTM.out.en i HI.out
      have HOW : Hid (Ows t p i ↔ (t.ss.getD i sl0).1 = p) := ⟨fun h => h.2, fun h => ⟨HI.out, h⟩⟩
      have HEE : Hid (eE t i = (t.ss.getD i sl0).2.1 + (t.ss.getD i sl0).2.2 - t.grd) := rfl
      have HV0 : Hid (VI t p i 0 i 0) := VI.start HI.out
      obtain ⟨z1, HZ1⟩ : ∃ z, Hid ((t.ss.getD i sl0).1 = z) := ⟨_, rfl⟩
      obtain ⟨z2, HZ2⟩ : ∃ z, Hid ((t.ss.getD i sl0).2.1 = z) := ⟨_, rfl⟩
      obtain ⟨z3, HZ3⟩ : ∃ z, Hid ((t.ss.getD i sl0).2.2 = z) := ⟨_, rfl⟩
      rw [HZ1.out] at c0 HOW
      rw [HZ2.out] at c1 hst hen HEE
      rw [HZ3.out] at c2 hln hen HEE
      have hbS : Below wr.heap.size wr (wr.alloc (.cells #[.int .i64 z1, .int .i64 z2, .int .i64 z3] 59)) := (Below.refl _ _).alloc (Nat.le_refl _) _
      have HBS : Hid (Below w.heap.size w (wr.alloc (.cells #[.int .i64 z1, .int .i64 z2, .int .i64 z3] 59))) := HBW.out.trans (hbS.mono HBW.out.size)
      have HXS : Hid (TBx (wr.alloc (.cells #[.int .i64 z1, .int .i64 z2, .int .i64 z3] 59)) w.heap.size t a) := HXW.out.below hbS
      have HSS : Hid (SRow (wr.alloc (.cells #[.int .i64 z1, .int .i64 z2, .int .i64 z3] 59)) wr.heap.size #[.int .i64 z1, .int .i64 z2, .int .i64 z3]) := srow_new wr _ _ rfl
      have HNW : Hid (w.heap.size < wr.heap.size) := HXW.out.lt
      have q0 : (wr.alloc (.cells #[.int .i64 z1, .int .i64 z2, .int .i64 z3] 59)).cell? ⟨wr.heap.size, 0, none⟩ = some (.int .i64 z1) := new_cell wr #[.int .i64 z1, .int .i64 z2, .int .i64 z3] 59 0 _ rfl
      clear hbS HBW HXW hbl1 p1 hsa
      by_cases ho : z1 = p
      rotate_left
      · have HN : Hid (LN t p (i + 1) L) := HLN.out.no (fun h => ho (HOW.out.1 h))
        have hon : (z1 != p) = true := by simp [ho]
        clear HLN HOW
        go_wp2
        go_roundg g
        case measure => omega
        case rel => exact ⟨i + 1, L, by omega, rfl, by first | rfl | go_num, hL1, hL2, HN.out, HBS.out, HXS.out⟩
      have hon : (z1 != p) = false := by simp [ho]
      have HOI : Hid (Ows t p i) := HOW.out.2 ho
      clear HOW ho
      go_wp2_with (first | (refine wpList_load_row rfl 39 (.tmp 2) rfl w.heap.size rfl 39 (tbA t a) (0, 0) _ HXS.out Tryz.underlying39 rfl (by kernel_rfl) ?_) | (refine wpList_load_row rfl 59 (.tmp 7) rfl wr.heap.size rfl 59 #[.int .i64 z1, .int .i64 z2, .int .i64 z3] (0, 0) _ HSS.out Tryz.underlying59 rfl (by kernel_rfl) ?_) | fail)
      revert HBS HXS HSS q0 HNW
      generalize wr.alloc (.cells #[.int .i64 z1, .int .i64 z2, .int .i64 z3] 59) = V
      generalize wr.heap.size = NS
      intro HBS HXS HSS HNW q0
      refine Calls.mono (HRO.out z1 z2 z3 (by omega) (by omega) (by omega) _) ?_
      rintro e w1 ⟨rfl, hb1⟩
      have HB1 : Hid (Below w.heap.size w w1) := HBS.out.trans (hb1.mono HBS.out.size)
      have HX1 : Hid (TBx w1 w.heap.size t a) := HXS.out.below hb1
      have HS1 : Hid (SRow w1 NS #[.int .i64 z1, .int .i64 z2, .int .i64 z3]) := HSS.out.below hb1
      have k18b : w1.cell? ⟨w.heap.size, 18, none⟩ = some (.slice a.sa a.sn a.sc) := HX1.out.cell 18 rfl
      obtain ⟨E, HE⟩ : ∃ E, Hid (z2 + z3 - t.grd = E) := ⟨_, rfl⟩
      have hE : 0 ≤ E ∧ E ≤ 5000 := by have := HE.out; omega
      rw [HE.out] at HEE
      rw [HE.out]
      clear hb1 HBS HXS HSS q0 HE
      go_wp2
      clear k18b
      go_loopg [5, 36] a.sn (fun g2 vL vq wz => ∃ (q k : Nat) (M y1 r y3 : Int), q + g2 = a.sn ∧ vL = .int .i64 L ∧ vq = .int .i64 q ∧ 0 ≤ r ∧ r ≤ 10000 ∧ 0 ≤ y3 ∧ y3 ≤ 5000 ∧ Hid (VI t p i q k M) ∧ Hid (0 < q → ¬ Ows t p k) ∧ Hid (M + (t.ss.getD k sl0).2.1 = r ∧ (t.ss.getD k sl0).2.2 = y3) ∧ Hid (Below w.heap.size w wz) ∧ Hid (TBx wz w.heap.size t a) ∧ Hid (SRow wz NS #[.int .i64 y1, .int .i64 r, .int .i64 y3]))
      case atStart => exact ⟨0, i, 0, z1, z2, z3, by omega, rfl, rfl, by omega, by omega, by omega, by omega, HV0.out, (fun h => absurd h (Nat.lt_irrefl 0)), ⟨by rw [HZ2.out]; omega, HZ3.out⟩, HB1.out, HX1.out, HS1.out⟩
      case round =>
        clear HB1 HX1 HS1 HV0
        rename World => wz
        obtain ⟨q, k, M, y1, r, y3, hqg, rfl, rfl, hr0, hr1, hy0, hy1, HVI, HNO, HRE, HBZ, HXZ, HSZ⟩ := hrel
        cases gk with
        | zero =>
          exfalso
          have e : q = t.ss.length := by have := HL.out; omega
          have hv := HVI.out
          rw [e] at hv
          exact HNO.out (by omega) (hv.end HOI.out)
        | succ g2 =>
          have hqz : ((q : Int) < (a.sn : Int)) := by omega
          have HNB : Hid (w.heap.size + 1 ≤ wz.heap.size) := by
            have := HSZ.out.lt
            have := HNW.out
            show _ ≤ _
            omega
          have HXS9 : Hid (TBx wz w.heap.size t a) := HXZ.out
          have HZW : Hid (w.heap.size + 1 ≤ NS) := HNW.out
          go_wp2
          refine wp_region_inv (by kernel_rfl) (by kernel_rfl) (fun A ℓ a' w' => ∃ (x38 x39 x40 x41 : Value), a' = ((((A.put (some 38) x38).put (some 39) x39).put (some 40) x40).put (some 41) x41) ∧ RgT t a (w.heap.size + 1) wz NS y1 r y3 w' (ℓ 0) (ℓ 1) (ℓ 2) (ℓ 3) (ℓ 4) x38 x39 x40 x41) ?_ ?_ ?_ ?_
          · exact ⟨u38, u39, u40, u41, (by simp only [Act.put, List.setIfInBounds_toArray, List.set_cons_zero, List.set_cons_succ]), ⟨(fun g => by cases g), ((Below.refl _ _).mono HNB.out).drew, (fun _ => (Below.refl _ _).drew), (fun g => by cases g), (fun g => by cases g), (fun g => by cases g), (fun g => by cases g)⟩⟩
          · intro ℓ a' w' hI hall
            obtain ⟨x38, x39, x40, x41, rfl, hr⟩ := hI
            have hall' : ∀ i, i < 5 → ℓ i = true := hall
            obtain rfl := hr.f0 (hall' 0 (by decide))
            obtain rfl := hr.f1 (hall' 1 (by decide))
            obtain rfl := hr.f2 (hall' 2 (by decide))
            obtain ⟨k9, s9, rfl, ht9, hrow⟩ := hr.f3 (hall' 3 (by decide))
            have HR9 := hrow (hall' 4 (by decide))
            have HG9 := hr.gb
            clear hrow hr hall hall'
            have htn : TN t (M + ((t.ss.getD k sl0).2.1 + (t.ss.getD k sl0).2.2)) k9 s9 := by
              rw [← Int.add_assoc, HRE.out.1, HRE.out.2]
              exact ht9
            obtain ⟨M9, hs9, hv9⟩ := HVI.out.step HTM.out HI.out HNO.out (by have := HL.out; omega) htn
            have HV9 : Hid (VI t p i (q + 1) k9 M9) := hv9
            have HRE9 : Hid (M9 + (t.ss.getD k9 sl0).2.1 = s9) := hs9.symm
            have hm9 := hv9.rng HTM.out
            have hst9 := HTM.out.st k9 hv9.k0
            have hln9 := HTM.out.ln k9 hv9.k0
            have hen9 := HTM.out.en k9 hv9.k0
            have HOW9 : Hid (Ows t p k9 ↔ (t.ss.getD k9 sl0).1 = p) := ⟨fun h => h.2, fun h => ⟨hv9.k0, h⟩⟩
            have HHIT : Hid (Ows t p k9 → GP t p i (M9 + (t.ss.getD k9 sl0).2.1 + t.pad - eE t i)) := fun h => hv9.hit HTM.out HOI.out (by omega) (by have := HL.out; omega) h
            have HNH : Hid (¬ Ows t p k9 → 0 < q + 1 → ¬ Ows t p k9) := fun h _ => h
            clear htn ht9 hv9 hs9 HVI HNO HRE HSZ HXZ
            have HB9 : Hid (Below w.heap.size w w') := HBZ.out.trans (HG9.mono (Nat.le_succ _))
            have HX9 : Hid (TBx w' w.heap.size t a) := HXS9.out.low HG9 (Nat.lt_succ_self _)
            obtain ⟨v1, HV1⟩ : ∃ z, Hid ((t.ss.getD k9 sl0).1 = z) := ⟨_, rfl⟩
            obtain ⟨v3, HV3⟩ : ∃ z, Hid ((t.ss.getD k9 sl0).2.2 = z) := ⟨_, rfl⟩
            have hs9 : 0 ≤ s9 ∧ s9 ≤ 10000 := by have := HRE9.out; omega
            rw [HV1.out] at HR9 HOW9
            rw [HV3.out] at HR9 hln9 hen9
            rw [HV1.out, HV3.out]
            have hv3 : 0 ≤ v3 ∧ v3 ≤ 5000 := by omega
            rw [HRE9.out, HEE.out] at HHIT
            have HS9 : Hid (SRow w' NS #[.int .i64 v1, .int .i64 s9, .int .i64 v3]) := HR9
            have c9 : w'.cell? ⟨NS, 0, none⟩ = some (.int .i64 v1) := HS9.out.cell 0 rfl
            clear HR9 HG9 HBZ hst9 hln9 hen9 hm9
            simp only [Act.put, List.setIfInBounds_toArray, List.set_cons_zero, List.set_cons_succ]
            by_cases h9 : v1 = p
            rotate_left
            · have h9b : (v1 == p) = false := by simp [h9]
              have HNO9 : Hid (0 < q + 1 → ¬ Ows t p k9) := fun _ h => h9 (HOW9.out.1 h)
              clear HHIT HOW9 h9
              go_wp2
              go_roundg g2
              case measure => omega
              case rel => exact ⟨q + 1, k9, M9, v1, s9, v3, by omega, rfl, by first | rfl | go_num, by omega, by omega, by omega, by omega, HV9.out, HNO9.out, ⟨HRE9.out, HV3.out⟩, HB9.out, HX9.out, HS9.out⟩
            · have h9b : (v1 == p) = true := by simp [h9]
              have HG : Hid (GP t p i (s9 + t.pad - E)) := HHIT.out (HOW9.out.2 h9)
              have HLN2 : Hid (LN t p (i + 1) (max L (s9 + t.pad - E))) := by
                have := HLN.out.yes HTM.out HOI.out HG.out
                rw [show (if L < s9 + t.pad - E then s9 + t.pad - E else L) = max L (s9 + t.pad - E) by split <;> omega] at this
                exact this
              clear HHIT HOW9 h9 HG HLN HV9 HRE9
              go_wp2_with (first | (refine wpList_load_row rfl 39 (.tmp 2) rfl w.heap.size rfl 39 (tbA t a) (0, 0) _ HX9.out Tryz.underlying39 rfl (by kernel_rfl) ?_) | (refine wpList_load_row rfl 59 (.tmp 7) rfl NS rfl 59 #[.int .i64 v1, .int .i64 s9, .int .i64 v3] (0, 0) _ HS9.out Tryz.underlying59 rfl (by kernel_rfl) ?_) | fail)
              refine Calls.mono (HRO.out v1 s9 v3 (by omega) (by omega) (by omega) _) ?_
              rintro e w2 ⟨rfl, hb2⟩
              have HB2 : Hid (Below w.heap.size w w2) := HB9.out.trans (hb2.mono HB9.out.size)
              have HX2 : Hid (TBx w2 w.heap.size t a) := HX9.out.below hb2
              clear hb2 HB9 HX9 HS9 c9
              have hwx : IntKind.i64.wrap (s9 + t.pad - E) = s9 + t.pad - E := by rw [IntKind.wrap_i64]; omega
              have hmx : -1 ≤ max L (s9 + t.pad - E) ∧ max L (s9 + t.pad - E) ≤ 30000 := by omega
              go_wp2
              go_roundg g
              case measure => omega
              case rel => exact ⟨i + 1, max L (s9 + t.pad - E), by omega, rfl, by first | rfl | go_num, by omega, by omega, HLN2.out, HB2.out, HX2.out⟩
          · intro ℓ a' w' i2 o hI ho hi hL hdep K hK
            obtain ⟨x38, x39, x40, x41, rfl, hr⟩ := hI
            have hi7 : i2 < 5 := hi
            have hcs : i2 = 0 ∨ i2 = 1 ∨ i2 = 2 ∨ i2 = 3 ∨ i2 = 4 := by omega
            clear hi hi7
            rcases hcs with rfl | rfl | rfl | rfl | rfl
            · replace ho : some ({ dst := some 38, op := .load 39 (.tmp 2), type := 39, pos := "l23_plan.go:82", after := #[], guard := none } : Oper) = some o := ho
              revert hK
              obtain rfl := Option.some.inj ho
              clear hdep ho
              have hl4 : ℓ 4 = false := by
                cases h7 : ℓ 4
                · rfl
                · have := (hr.cs h7).1; rw [this] at hL; cases hL
              intro hK
              rw [if_pos (by rfl)]
              try simp only [Act.put, List.setIfInBounds_toArray, List.set_cons_zero, List.set_cons_succ]
              refine wp_load_row (P := Tryz.prog) 39 (.tmp 2) rfl w.heap.size rfl 39 (tbA t a) (0, 0) _ (HXS9.out.below (hr.pre hl4)) Tryz.underlying39 rfl (by kernel_rfl) ?_
              exact hK.out _ _ (fun j => if j = 0 then true else ℓ j) ⟨tbV t a, x39, x40, x41, (by simp only [Act.put, List.setIfInBounds_toArray, List.set_cons_zero, List.set_cons_succ]), ⟨(fun g => ⟨rfl, (hr.cs g).2.1, (hr.cs g).2.2.1, (hr.cs g).2.2.2⟩), hr.gb, hr.pre, (fun _ => rfl), hr.f1, hr.f2, hr.f3⟩⟩ (if_pos rfl) (fun j hj => if_neg hj)
            · replace ho : some ({ dst := some 39, op := .load 59 (.tmp 7), type := 59, pos := "l23_plan.go:82", after := #[], guard := none } : Oper) = some o := ho
              revert hK
              obtain rfl := Option.some.inj ho
              clear hdep ho
              have hl4 : ℓ 4 = false := by
                cases h7 : ℓ 4
                · rfl
                · have := (hr.cs h7).2.1; rw [this] at hL; cases hL
              intro hK
              rw [if_pos (by rfl)]
              try simp only [Act.put, List.setIfInBounds_toArray, List.set_cons_zero, List.set_cons_succ]
              refine wp_load_row (P := Tryz.prog) 59 (.tmp 7) rfl NS rfl 59 #[.int .i64 y1, .int .i64 r, .int .i64 y3] (0, 0) _ (HSZ.out.below (hr.pre hl4)) Tryz.underlying59 rfl (by kernel_rfl) ?_
              exact hK.out _ _ (fun j => if j = 1 then true else ℓ j) ⟨x38, .agg #[.int .i64 y1, .int .i64 r, .int .i64 y3], x40, x41, (by simp only [Act.put, List.setIfInBounds_toArray, List.set_cons_zero, List.set_cons_succ]), ⟨(fun g => ⟨(hr.cs g).1, rfl, (hr.cs g).2.2.1, (hr.cs g).2.2.2⟩), hr.gb, hr.pre, hr.f0, (fun _ => rfl), hr.f2, hr.f3⟩⟩ (if_pos rfl) (fun j hj => if_neg hj)
            · revert hK
              obtain rfl := Option.some.inj ho
              have g1 : ℓ 1 = true := hdep { on := 1, ground := Ground.data } (by simp) rfl
              clear hdep ho
              have hl4 : ℓ 4 = false := by
                cases h7 : ℓ 4
                · rfl
                · have := (hr.cs h7).2.2.1; rw [this] at hL; cases hL
              obtain rfl := hr.f1 g1
              intro hK
              rw [if_pos (by rfl)]
              try simp only [Act.put, List.setIfInBounds_toArray, List.set_cons_zero, List.set_cons_succ]
              go_simp
              refine Calls.mono (HEN.out y1 r y3 hr0 hy0 (by omega) _) ?_
              rintro e w9 ⟨rfl, hb9⟩
              have hr9 := hr.below hl4 HNB.out hb9
              exact hK.out _ _ (fun j => if j = 2 then true else ℓ j) ⟨x38, .agg #[.int .i64 y1, .int .i64 r, .int .i64 y3], .int .i64 (r + y3), x41, (by simp only [Act.put, List.setIfInBounds_toArray, List.set_cons_zero, List.set_cons_succ]), ⟨(fun g => ⟨(hr9.cs g).1, (hr9.cs g).2.1, rfl, (hr9.cs g).2.2.2⟩), hr9.gb, hr9.pre, hr9.f0, hr9.f1, (fun _ => rfl), hr9.f3⟩⟩ (if_pos rfl) (fun j hj => if_neg hj)
            · revert hK
              obtain rfl := Option.some.inj ho
              have g0 : ℓ 0 = true := hdep { on := 0, ground := Ground.data } (by simp) rfl
              have g2 : ℓ 2 = true := hdep { on := 2, ground := Ground.data } (by simp) rfl
              clear hdep ho
              have hl4 : ℓ 4 = false := by
                cases h7 : ℓ 4
                · rfl
                · have := (hr.cs h7).2.2.2; rw [this] at hL; cases hL
              obtain rfl := hr.f0 g0
              obtain rfl := hr.f2 g2
              have HBC : Hid (Below w.heap.size w w') := HBZ.out.trans (hr.gb.mono (Nat.le_succ _))
              intro hK
              rw [if_pos (by rfl)]
              try simp only [Act.put, List.setIfInBounds_toArray, List.set_cons_zero, List.set_cons_succ]
              go_simp
              refine Calls.mono (HNT.out (r + y3) (by omega) (by omega) _ HBC.out) ?_
              rintro e w9 ⟨⟨k9, s9, rfl, ht9⟩, hb9⟩
              have hr9 := hr.below hl4 HNB.out hb9
              exact hK.out _ _ (fun j => if j = 3 then true else ℓ j) ⟨tbV t a, x39, .int .i64 (r + y3), .agg #[.int .i64 (t.ss.getD k9 sl0).1, .int .i64 s9, .int .i64 (t.ss.getD k9 sl0).2.2], (by simp only [Act.put, List.setIfInBounds_toArray, List.set_cons_zero, List.set_cons_succ]), ⟨(fun g => ⟨(hr9.cs g).1, (hr9.cs g).2.1, (hr9.cs g).2.2.1, rfl⟩), hr9.gb, hr9.pre, hr9.f0, hr9.f1, hr9.f2, (fun _ => ⟨k9, s9, rfl, ht9, fun q => absurd (hl4.symm.trans q) Bool.false_ne_true⟩)⟩⟩ (if_pos rfl) (fun j hj => if_neg hj)
            · replace ho : some ({ dst := none, op := .store 59 (.tmp 7) (.tmp 41), type := 0, pos := "l23_plan.go:82", after := #[{ on := 3, ground := Ground.data }, { on := 3, ground := Ground.chain }, { on := 0, ground := Ground.phase }, { on := 1, ground := Ground.phase }, { on := 2, ground := Ground.phase }, { on := 3, ground := Ground.phase }], guard := none } : Oper) = some o := ho
              revert hK
              obtain rfl := Option.some.inj ho
              have g0 : ℓ 0 = true := hdep { on := 0, ground := Ground.phase } (by simp) rfl
              have g1 : ℓ 1 = true := hdep { on := 1, ground := Ground.phase } (by simp) rfl
              have g2 : ℓ 2 = true := hdep { on := 2, ground := Ground.phase } (by simp) rfl
              have g3 : ℓ 3 = true := hdep { on := 3, ground := Ground.data } (by simp) rfl
              clear hdep ho
              obtain ⟨k9, s9, rfl, ht9, _⟩ := hr.f3 g3
              have hrz := HSZ.out.below (hr.pre hL)
              intro hK
              rw [if_pos (by rfl)]
              try simp only [Act.put, List.setIfInBounds_toArray, List.set_cons_zero, List.set_cons_succ]
              refine wp_store_row (P := Tryz.prog) 59 (.tmp 7) (.tmp 41) rfl NS #[.int .i64 (t.ss.getD k9 sl0).1, .int .i64 s9, .int .i64 (t.ss.getD k9 sl0).2.2] rfl rfl 59 #[.int .i64 y1, .int .i64 r, .int .i64 y3] hrz (by kernel_rfl) rfl (by simp [Value.oneCell']) ?_
              exact hK.out _ _ (fun j => if j = 4 then true else ℓ j) ⟨x38, x39, x40, .agg #[.int .i64 (t.ss.getD k9 sl0).1, .int .i64 s9, .int .i64 (t.ss.getD k9 sl0).2.2], (by simp only [Act.put, List.setIfInBounds_toArray, List.set_cons_zero, List.set_cons_succ]), ⟨(fun _ => ⟨g0, g1, g2, g3⟩), below_setRow hr.gb HZW.out _, (fun g => by cases g), hr.f0, hr.f1, hr.f2, (fun _ => ⟨k9, s9, rfl, ht9, fun _ => setRow_heap _ _ _ _ _ _ hrz⟩)⟩⟩ (if_pos rfl) (fun j hj => if_neg hj)
          · rintro a' w' ℓ ℓ' hℓ hI
            rw [← show ℓ = ℓ' from funext hℓ]
            exact hI
end La
end Go.Proofs.YthieilkabcehgaaGreatDoor
