/-
  Tables that are alike are told alike. Conditions: their lists lie in memory and are small.
  A slot split and the two merged again, as plain facts: the slots are the old ones; what a partition's share and the gaps become. No conditions but those that each fact names.
  The law on splits, walked, its draw handed in: of all bytes it returns true. Conditions: the bytes are bytes; the program's table of extras holds what the program's text lays.
  Tables whose slots of one partition are cut: what the others' shares and waiting are, what the cut costs. No conditions but those that each fact names.
  The law on evened slots, walked, its draw handed in: of all bytes it returns true. Conditions: the bytes are bytes; the program's table of extras holds what the program's text lays.
  Tables and the place of a slot, drawn for the laws on splits. Conditions: the bytes are bytes, at most 1048576 of them.
  Tables, a slot's place and a length, drawn for the law on splits. Conditions: the bytes are bytes, at most 1048576 of them.
  Tables, a partition and a length, drawn for the law on evened slots. Conditions: the bytes are bytes, at most 1048576 of them.
  The law on evened slots, walked whole. Conditions: the bytes are bytes; the program's table of extras holds what the program's text lays.
-/
import Derived.Test.YtlomcdgfcocmmaaGreatDoorBas
import Derived.Test.YtlomcdgfcocmmaaGreatDoorShr
import Derived.Test.YtlomcdgfcocmmaaGreatDoorGen
import Derived.Test.YtlomcdgfcocmmaaGreatDoorLsw
import Derived.Test.YtlomcdgfcocmmaaGreatDoorJb3
import Derived.Test.YtlomcdgfcocmmaaGreatDoorJb2
import Derived.Test.YtlomcdgfcocmmaaGreatDoorJb4
import Derived.Test.YtlomcdgfcocmmaaGreatDoorGap
import Derived.Test.YtlomcdgfcocmmaaGreatDoorVat
import Derived.Test.YtlomcdgfcocmmaaGreatDoorJc2
import Derived.Test.YtlomcdgfcocmmaaGreatDoorJc3
import Derived.Test.YtlomcdgfcocmmaaGreatDoorDsp
import Derived.Deep.AppendSrc
namespace Go.Proofs.YtlomcdgfcocmmaaGreatDoor
open Go.ChangeShapes Go.WideShapes Go.ChangeAt Go.RowKit Go.Deep Go.Joins
set_option linter.unusedVariables false

set_option maxHeartbeats 800000 in
theorem same_ints (a b : Option Addr) (n c d : Nat) (zs : List Int) (X : World) (hs : GSeg 1 X a n (inX zs)) (ht : GSeg 1 X b n (inX zs)) (hn : n ≤ 1048576) :
    Calls Tryz.prog 41 #[.slice a n c, .slice b n d] X fun e w' => e = .returned (.bool true) ∧ Below X.heap.size X w' := by
  go_enter Tryz.func41, Tryz.ntmps41
  go_wp2
  go_loopw [5] (fun vi wr => ∃ k : Nat, k ≤ n ∧ vi = .int .i64 k ∧ Hid (Below X.heap.size X wr)) (fun vi _ => n - (intOf vi).toNat)
  case atStart => exact ⟨0, by omega, rfl, Below.refl _ _⟩
  case round =>
    obtain ⟨k, hk, rfl, HB⟩ := hrel
    by_cases hlt : k < n
    rotate_left
    · obtain rfl : k = n := by omega
      have hnl : ¬ ((k : Int) < (k : Int)) := by omega
      go_wp2
      go_ret
      exact ⟨rfl, HB.out⟩
    have hlt' : (k : Int) < (n : Int) := by omega
    obtain ⟨b1, o1, hna, hbl1, p1⟩ := (hs.below HB.out).at k hlt
    obtain ⟨b2, o2, hnb, hbl2, p2⟩ := (ht.below HB.out).at k hlt
    have c1 : wr.cell? ⟨b1, o1 + k, none⟩ = some (.int .i64 (zs.getD k 0)) := by simpa using in_cell p1
    have c2 : wr.cell? ⟨b2, o2 + k, none⟩ = some (.int .i64 (zs.getD k 0)) := by simpa using in_cell p2
    generalize zs.getD k 0 = v at c1 c2
    clear p1 p2 hs ht hbl1 hbl2
    subst hna hnb
    go_wp2
    have G1 := fun X => gr_cell c1 X
    have G2 := fun X => gr_cell c2 X
    have hgr := gr_some wr
    try simp only [Act.put]
    refine region_alike (by kernel_rfl) (by kernel_rfl) ?_
    repeat (go_big_quiet_step (fail))
    refine wpQuiet_nil ?_
    intro _ hw'
    obtain ⟨X1, rfl⟩ := hw'
    have HBX : Hid (Below X.heap.size X X1.w) := HB.out.trans (X1.h.mono HB.out.size)
    generalize X1.w = w6 at HBX ⊢
    clear G1 G2 hgr c1 c2
    go_wp2
    go_roundw
    case rel => exact ⟨k + 1, by omega, by first | rfl | go_num, HBX.out⟩
    case measure => simp [intOf]; omega
/-- Both rows, in whatever order they are read and made. -/
structure Sm8 (W0 : World) (T0 T1 bP oP bQ oQ pn pc pd i : Nat) (nm : ByteArray) (en kd ms : Int) (wa wb : Option Addr) (wn wc wd : Nat) (w' : World) (N1 N2 : Nat) (b0 b1 b2 b3 b4 b5 b6 b7 b8 b9 b10 b11 b12 b13 : Bool) (x98 x99 x100 x101 x102 x103 x104 x105 x106 x107 x6 x7 : Value) : Prop where
  c12 : b12 = true → b10 = true ∧ b11 = true
  c13 : b13 = true → b12 = true
  gb : Below W0.heap.size W0 w'
  ne : b10 = true → b11 = true → N1 ≠ N2
  f0 : b0 = true → x98 = .pointer (some ⟨T0, 15, none⟩)
  f1 : b1 = true → x99 = .slice (some ⟨bP, oP, none⟩) pn pc
  f2 : b2 = true → x100 = .int .i64 (i : Int)
  f3 : b3 = true → x101 = .pointer (some ⟨bP, oP + i * 5, none⟩)
  f4 : b4 = true → x102 = .agg #[.string nm, .int .i64 en, .int .i64 kd, .int .i64 ms, .slice wa wn wc]
  f5 : b5 = true → x103 = .pointer (some ⟨T1, 15, none⟩)
  f6 : b6 = true → x104 = .slice (some ⟨bQ, oQ, none⟩) pn pd
  f7 : b7 = true → x105 = .int .i64 (i : Int)
  f8 : b8 = true → x106 = .pointer (some ⟨bQ, oQ + i * 5, none⟩)
  f9 : b9 = true → x107 = .agg #[.string nm, .int .i64 en, .int .i64 kd, .int .i64 ms, .slice wb wn wd]
  f10 : b10 = true → x6 = .pointer (some ⟨N1, 0, none⟩) ∧ W0.heap.size ≤ N1 ∧ (b12 = false → w'.heap[N1]? = some (.cells #[.string ByteArray.empty, .int .i64 0, .int .i64 0, .int .i64 0, .slice none 0 0] 72 (0, 0))) ∧ (b12 = true → w'.heap[N1]? = some (.cells #[.string nm, .int .i64 en, .int .i64 kd, .int .i64 ms, .slice wa wn wc] 72 (0, 0)))
  f11 : b11 = true → x7 = .pointer (some ⟨N2, 0, none⟩) ∧ W0.heap.size ≤ N2 ∧ (b13 = false → w'.heap[N2]? = some (.cells #[.string ByteArray.empty, .int .i64 0, .int .i64 0, .int .i64 0, .slice none 0 0] 72 (0, 0))) ∧ (b13 = true → w'.heap[N2]? = some (.cells #[.string nm, .int .i64 en, .int .i64 kd, .int .i64 ms, .slice wb wn wd] 72 (0, 0)))
set_option maxRecDepth 40000 in
set_option maxHeartbeats 16000000 in
theorem same_tables (t : Tb) (a b : Ad) (W : World) (ha : TM 0 W t a) (hb : TM 0 W t b) (hwa : TW t a) (hwb : TW t b) (hsa : TS a) (hsb : TS b) :
    Calls Tryz.prog 12 #[tbV t a, tbV t b] W fun e w' => e = .returned (.bool true) ∧ Below W.heap.size W w' := by
  obtain ⟨pa, pn, pc, da, dn, dc, ca, cn, cc, sa, sn, sc, Y⟩ := a
  obtain ⟨pa', pn', pc', da', dn', dc', ca', cn', cc', sa', sn', sc', Y'⟩ := b
  obtain rfl : pn = pn' := hwa.pl.symm.trans hwb.pl
  obtain rfl : dn = dn' := hwa.dl.symm.trans hwb.dl
  obtain rfl : cn = cn' := hwa.cl.symm.trans hwb.cl
  obtain rfl : sn = sn' := hwa.sl.symm.trans hwb.sl
  have HX : Hid (Bk ((W.alloc (.cells (#[.int .i64 t.mem, .int .i64 t.s1, .int .i64 t.s2, .int .i64 t.s3, .int .i64 t.tlb, .int .i64 t.c1, .int .i64 t.c2, .int .i64 t.c3, .int .i64 t.c4, .int .i64 t.c5, .int .i64 t.c6, .int .i64 t.c7, .int .i64 t.pad, .int .i64 t.grd, .int .i64 t.maj, .slice pa pn pc, .slice da dn dc, .slice ca cn cc, .slice sa sn sc]) 33)).alloc (.cells (#[.int .i64 t.mem, .int .i64 t.s1, .int .i64 t.s2, .int .i64 t.s3, .int .i64 t.tlb, .int .i64 t.c1, .int .i64 t.c2, .int .i64 t.c3, .int .i64 t.c4, .int .i64 t.c5, .int .i64 t.c6, .int .i64 t.c7, .int .i64 t.pad, .int .i64 t.grd, .int .i64 t.maj, .slice pa' pn pc', .slice da' dn dc', .slice ca' cn cc', .slice sa' sn sc']) 33)) W.heap.size (#[.int .i64 t.mem, .int .i64 t.s1, .int .i64 t.s2, .int .i64 t.s3, .int .i64 t.tlb, .int .i64 t.c1, .int .i64 t.c2, .int .i64 t.c3, .int .i64 t.c4, .int .i64 t.c5, .int .i64 t.c6, .int .i64 t.c7, .int .i64 t.pad, .int .i64 t.grd, .int .i64 t.maj, .slice pa pn pc, .slice da dn dc, .slice ca cn cc, .slice sa sn sc])) := (Bk.new W _ _ _ rfl).alloc _
  have HY : Hid (Bk ((W.alloc (.cells (#[.int .i64 t.mem, .int .i64 t.s1, .int .i64 t.s2, .int .i64 t.s3, .int .i64 t.tlb, .int .i64 t.c1, .int .i64 t.c2, .int .i64 t.c3, .int .i64 t.c4, .int .i64 t.c5, .int .i64 t.c6, .int .i64 t.c7, .int .i64 t.pad, .int .i64 t.grd, .int .i64 t.maj, .slice pa pn pc, .slice da dn dc, .slice ca cn cc, .slice sa sn sc]) 33)).alloc (.cells (#[.int .i64 t.mem, .int .i64 t.s1, .int .i64 t.s2, .int .i64 t.s3, .int .i64 t.tlb, .int .i64 t.c1, .int .i64 t.c2, .int .i64 t.c3, .int .i64 t.c4, .int .i64 t.c5, .int .i64 t.c6, .int .i64 t.c7, .int .i64 t.pad, .int .i64 t.grd, .int .i64 t.maj, .slice pa' pn pc', .slice da' dn dc', .slice ca' cn cc', .slice sa' sn sc']) 33)) (W.heap.size + 1) (#[.int .i64 t.mem, .int .i64 t.s1, .int .i64 t.s2, .int .i64 t.s3, .int .i64 t.tlb, .int .i64 t.c1, .int .i64 t.c2, .int .i64 t.c3, .int .i64 t.c4, .int .i64 t.c5, .int .i64 t.c6, .int .i64 t.c7, .int .i64 t.pad, .int .i64 t.grd, .int .i64 t.maj, .slice pa' pn pc', .slice da' dn dc', .slice ca' cn cc', .slice sa' sn sc'])) := Bk.new _ _ _ _ (by simp)
  have HB1 : Hid (Below W.heap.size W ((W.alloc (.cells (#[.int .i64 t.mem, .int .i64 t.s1, .int .i64 t.s2, .int .i64 t.s3, .int .i64 t.tlb, .int .i64 t.c1, .int .i64 t.c2, .int .i64 t.c3, .int .i64 t.c4, .int .i64 t.c5, .int .i64 t.c6, .int .i64 t.c7, .int .i64 t.pad, .int .i64 t.grd, .int .i64 t.maj, .slice pa pn pc, .slice da dn dc, .slice ca cn cc, .slice sa sn sc]) 33)).alloc (.cells (#[.int .i64 t.mem, .int .i64 t.s1, .int .i64 t.s2, .int .i64 t.s3, .int .i64 t.tlb, .int .i64 t.c1, .int .i64 t.c2, .int .i64 t.c3, .int .i64 t.c4, .int .i64 t.c5, .int .i64 t.c6, .int .i64 t.c7, .int .i64 t.pad, .int .i64 t.grd, .int .i64 t.maj, .slice pa' pn pc', .slice da' dn dc', .slice ca' cn cc', .slice sa' sn sc']) 33))) := ((Below.refl _ _).alloc (Nat.le_refl _) _).alloc (by simp) _
  have HTA : Hid (∀ X, Below W.heap.size W X → TM 0 X t ⟨pa, pn, pc, da, dn, dc, ca, cn, cc, sa, sn, sc, Y⟩ ∧ TM 0 X t ⟨pa', pn, pc', da', dn, dc', ca', cn, cc', sa', sn, sc', Y'⟩) := fun X hX => ⟨ha.below hX, hb.below hX⟩
  have HWA : Hid (TW t ⟨pa, pn, pc, da, dn, dc, ca, cn, cc, sa, sn, sc, Y⟩ ∧ TW t ⟨pa', pn, pc', da', dn, dc', ca', cn, cc', sa', sn, sc', Y'⟩ ∧ TS ⟨pa, pn, pc, da, dn, dc, ca, cn, cc, sa, sn, sc, Y⟩ ∧ TS ⟨pa', pn, pc', da', dn, dc', ca', cn, cc', sa', sn, sc', Y'⟩) := ⟨hwa, hwb, hsa, hsb⟩
  have hpn : pn ≤ 1048576 := hsa.p
  have hdn : dn ≤ 1048576 := hsa.d
  have hcn : cn ≤ 1048576 := hsa.c
  have hsn : sn ≤ 1048576 := hsa.s
  have HSI : Hid (∀ X, Below W.heap.size W X → Calls Tryz.prog 41 #[.slice da dn dc, .slice da' dn dc'] X fun e w' => e = .returned (.bool true) ∧ Below X.heap.size X w') := fun X hX => same_ints da da' dn dc dc' t.ds X (ha.d.below hX).seg (hb.d.below hX).seg hsa.d
  clear ha hb hwa hwb hsa hsb
  have v0 := HX.out.cell 0 _ rfl
  have u0 := HY.out.cell 0 _ rfl
  have v1 := HX.out.cell 1 _ rfl
  have u1 := HY.out.cell 1 _ rfl
  have v2 := HX.out.cell 2 _ rfl
  have u2 := HY.out.cell 2 _ rfl
  have v3 := HX.out.cell 3 _ rfl
  have u3 := HY.out.cell 3 _ rfl
  have v4 := HX.out.cell 4 _ rfl
  have u4 := HY.out.cell 4 _ rfl
  have v5 := HX.out.cell 5 _ rfl
  have u5 := HY.out.cell 5 _ rfl
  have v6 := HX.out.cell 6 _ rfl
  have u6 := HY.out.cell 6 _ rfl
  have v7 := HX.out.cell 7 _ rfl
  have u7 := HY.out.cell 7 _ rfl
  have v8 := HX.out.cell 8 _ rfl
  have u8 := HY.out.cell 8 _ rfl
  have v9 := HX.out.cell 9 _ rfl
  have u9 := HY.out.cell 9 _ rfl
  have v10 := HX.out.cell 10 _ rfl
  have u10 := HY.out.cell 10 _ rfl
  have v11 := HX.out.cell 11 _ rfl
  have u11 := HY.out.cell 11 _ rfl
  have v15 := HX.out.cell 15 _ rfl
  have u15 := HY.out.cell 15 _ rfl
  have v16 := HX.out.cell 16 _ rfl
  have u16 := HY.out.cell 16 _ rfl
  have v17 := HX.out.cell 17 _ rfl
  have u17 := HY.out.cell 17 _ rfl
  have v18 := HX.out.cell 18 _ rfl
  have u18 := HY.out.cell 18 _ rfl
  go_enter Tryz.func12, Tryz.ntmps12
  go_wp2_with fail
  refine Calls.mono (HSI.out _ HB1.out) ?_
  rintro e w1 ⟨rfl, hb⟩
  have HB0 : Hid (Below W.heap.size W w1) := HB1.out.trans (hb.mono HB1.out.size)
  have HX1 : Hid (∀ X, Below w1.heap.size w1 X → Bk X W.heap.size (#[.int .i64 t.mem, .int .i64 t.s1, .int .i64 t.s2, .int .i64 t.s3, .int .i64 t.tlb, .int .i64 t.c1, .int .i64 t.c2, .int .i64 t.c3, .int .i64 t.c4, .int .i64 t.c5, .int .i64 t.c6, .int .i64 t.c7, .int .i64 t.pad, .int .i64 t.grd, .int .i64 t.maj, .slice pa pn pc, .slice da dn dc, .slice ca cn cc, .slice sa sn sc]) ∧ Bk X (W.heap.size + 1) (#[.int .i64 t.mem, .int .i64 t.s1, .int .i64 t.s2, .int .i64 t.s3, .int .i64 t.tlb, .int .i64 t.c1, .int .i64 t.c2, .int .i64 t.c3, .int .i64 t.c4, .int .i64 t.c5, .int .i64 t.c6, .int .i64 t.c7, .int .i64 t.pad, .int .i64 t.grd, .int .i64 t.maj, .slice pa' pn pc', .slice da' dn dc', .slice ca' cn cc', .slice sa' sn sc'])) := fun X hX => ⟨(HX.out.below hb).below hX, (HY.out.below hb).below hX⟩
  have x17 : w1.cell? ⟨W.heap.size, 17, none⟩ = some (.slice ca cn cc) := (HX1.out _ (Below.refl _ _)).1.cell 17 _ rfl
  have y17 : w1.cell? ⟨W.heap.size + 1, 17, none⟩ = some (.slice ca' cn cc') := (HX1.out _ (Below.refl _ _)).2.cell 17 _ rfl
  have x18 : w1.cell? ⟨W.heap.size, 18, none⟩ = some (.slice sa sn sc) := (HX1.out _ (Below.refl _ _)).1.cell 18 _ rfl
  have y18 : w1.cell? ⟨W.heap.size + 1, 18, none⟩ = some (.slice sa' sn sc') := (HX1.out _ (Below.refl _ _)).2.cell 18 _ rfl
  clear HX HY HSI HB1 hb v0 u0 v1 u1 v2 u2 v3 u3 v4 u4 v5 u5 v6 u6 v7 u7 v8 u8 v9 u9 v10 u10 v11 u11 v15 u15 v16 u16 v17 u17 v18 u18
  go_wp2
  clear x17 y17 x18 y18
  go_loopw [5] (fun vi wr => ∃ i : Nat, i ≤ pn ∧ vi = .int .i64 i ∧ Hid (Below w1.heap.size w1 wr)) (fun vi _ => pn - (intOf vi).toNat)
  case atStart => exact ⟨0, by omega, rfl, Below.refl _ _⟩
  case round =>
    obtain ⟨i, hi, rfl, HB⟩ := hrel
    have v15 : wr.cell? ⟨W.heap.size, 15, none⟩ = some (.slice pa pn pc) := (HX1.out _ HB.out).1.cell 15 _ rfl
    by_cases hil : i < pn
    rotate_left
    · obtain rfl : i = pn := by omega
      have hni : ¬ ((i : Int) < (i : Int)) := by omega
      have HBE : Hid (Below w1.heap.size w1 wr) := HB.out
      clear HB
      go_wp2
      clear v15
      go_loopw [9] (fun vi wr => ∃ j : Nat, j ≤ cn ∧ vi = .int .i64 j ∧ Hid (Below w1.heap.size w1 wr)) (fun vi _ => cn - (intOf vi).toNat)
      case atStart => exact ⟨0, by omega, rfl, HBE.out⟩
      case round =>
        clear HBE
        rename World => wz
        obtain ⟨j, hj, rfl, HZ⟩ := hrel
        have d0 : wz.cell? ⟨W.heap.size, 17, none⟩ = some (.slice ca cn cc) := (HX1.out _ HZ.out).1.cell 17 _ rfl
        by_cases hjl : j < cn
        rotate_left
        · obtain rfl : j = cn := by omega
          have hnj : ¬ ((j : Int) < (j : Int)) := by omega
          have HBE : Hid (Below w1.heap.size w1 wz) := HZ.out
          clear HZ
          go_wp2
          clear d0
          go_loopw [10] (fun vi wr => ∃ j : Nat, j ≤ sn ∧ vi = .int .i64 j ∧ Hid (Below w1.heap.size w1 wr)) (fun vi _ => sn - (intOf vi).toNat)
          case atStart => exact ⟨0, by omega, rfl, HBE.out⟩
          case round =>
            clear HBE
            rename World => wz
            obtain ⟨j, hj, rfl, HZ⟩ := hrel
            have d0 : wz.cell? ⟨W.heap.size, 18, none⟩ = some (.slice sa sn sc) := (HX1.out _ HZ.out).1.cell 18 _ rfl
            by_cases hjl : j < sn
            rotate_left
            · obtain rfl : j = sn := by omega
              have hnj : ¬ ((j : Int) < (j : Int)) := by omega
              have HBE : Hid (Below w1.heap.size w1 wz) := HZ.out
              clear HZ
              go_wp2
              clear d0
              have HBR : Hid (Below W.heap.size W wz) := HB0.out.trans (HBE.out.mono HB0.out.size)
              go_ret
              exact ⟨rfl, HBR.out⟩
            have hjl' : (j : Int) < (sn : Int) := by omega
            have e0 : wz.cell? ⟨W.heap.size + 1, 18, none⟩ = some (.slice sa' sn sc') := (HX1.out _ HZ.out).2.cell 18 _ rfl
            have HBZ : Hid (Below W.heap.size W wz) := HB0.out.trans (HZ.out.mono HB0.out.size)
            obtain ⟨b1, o1, hwa, hbl1, p1⟩ := (HTA.out _ HBZ.out).1.s.seg.at j hjl
            obtain ⟨b2, o2, hwb, hbl2, p2⟩ := (HTA.out _ HBZ.out).2.s.seg.at j hjl
            replace hwa : sa = some ⟨b1, o1, none⟩ := hwa
            replace hwb : sa' = some ⟨b2, o2, none⟩ := hwb
            rw [hwa] at d0
            rw [hwb] at e0
            clear hwa hwb
            simp only [slX] at p1 p2
            generalize t.ss.getD j sl0 = y at p1 p2
            obtain ⟨z1, z2, z3⟩ := y
            obtain ⟨q0, q1, q2⟩ := sl_cells p1
            obtain ⟨r0, r1, r2⟩ := sl_cells p2
            clear p1 p2 hbl1 hbl2
            go_wp2
            have GA := fun X => gr_cell d0 X
            have GB := fun X => gr_cell e0 X
            have Ga0 := fun X => gr_cell q0 X
            have Gb0 := fun X => gr_cell r0 X
            have Ga1 := fun X => gr_cell q1 X
            have Gb1 := fun X => gr_cell r1 X
            have Ga2 := fun X => gr_cell q2 X
            have Gb2 := fun X => gr_cell r2 X
            have hgr := gr_some wz
            try simp only [Act.put]
            refine region_alike (by kernel_rfl) (by kernel_rfl) ?_
            repeat (go_big_quiet_step (fail))
            refine wpQuiet_nil ?_
            intro _ hw'
            obtain ⟨X1, rfl⟩ := hw'
            have HBX : Hid (Below w1.heap.size w1 X1.w) := HZ.out.trans (X1.h.mono HZ.out.size)
            generalize X1.w = w9 at HBX ⊢
            clear GA GB Ga0 Gb0 Ga1 Gb1 Ga2 Gb2 hgr d0 e0 q0 r0 q1 r1 q2 r2
            go_wp2
            go_roundw
            case rel => exact ⟨j + 1, by omega, by first | rfl | go_num, HBX.out⟩
            case measure => simp [intOf]; omega
        have hjl' : (j : Int) < (cn : Int) := by omega
        have e0 : wz.cell? ⟨W.heap.size + 1, 17, none⟩ = some (.slice ca' cn cc') := (HX1.out _ HZ.out).2.cell 17 _ rfl
        have HBZ : Hid (Below W.heap.size W wz) := HB0.out.trans (HZ.out.mono HB0.out.size)
        obtain ⟨b1, o1, hwa, hbl1, p1⟩ := (HTA.out _ HBZ.out).1.c.seg.at j hjl
        obtain ⟨b2, o2, hwb, hbl2, p2⟩ := (HTA.out _ HBZ.out).2.c.seg.at j hjl
        replace hwa : ca = some ⟨b1, o1, none⟩ := hwa
        replace hwb : ca' = some ⟨b2, o2, none⟩ := hwb
        rw [hwa] at d0
        rw [hwb] at e0
        clear hwa hwb
        simp only [chX] at p1 p2
        generalize t.cs.getD j ch0 = y at p1 p2
        obtain ⟨z1, z2, z3, z4⟩ := y
        obtain ⟨q0, q1, q2, q3⟩ := ch_cells p1
        obtain ⟨r0, r1, r2, r3⟩ := ch_cells p2
        clear p1 p2 hbl1 hbl2
        go_wp2
        have GA := fun X => gr_cell d0 X
        have GB := fun X => gr_cell e0 X
        have Ga0 := fun X => gr_cell q0 X
        have Gb0 := fun X => gr_cell r0 X
        have Ga1 := fun X => gr_cell q1 X
        have Gb1 := fun X => gr_cell r1 X
        have Ga2 := fun X => gr_cell q2 X
        have Gb2 := fun X => gr_cell r2 X
        have Ga3 := fun X => gr_cell q3 X
        have Gb3 := fun X => gr_cell r3 X
        have hgr := gr_some wz
        try simp only [Act.put]
        refine region_alike (by kernel_rfl) (by kernel_rfl) ?_
        repeat (go_big_quiet_step (fail))
        refine wpQuiet_nil ?_
        intro _ hw'
        obtain ⟨X1, rfl⟩ := hw'
        have HBX : Hid (Below w1.heap.size w1 X1.w) := HZ.out.trans (X1.h.mono HZ.out.size)
        generalize X1.w = w9 at HBX ⊢
        clear GA GB Ga0 Gb0 Ga1 Gb1 Ga2 Gb2 Ga3 Gb3 hgr d0 e0 q0 r0 q1 r1 q2 r2 q3 r3
        go_wp2
        go_roundw
        case rel => exact ⟨j + 1, by omega, by first | rfl | go_num, HBX.out⟩
        case measure => simp [intOf]; omega
    have hil' : (i : Int) < (pn : Int) := by omega
    have HBW : Hid (Below W.heap.size W wr) := HB0.out.trans (HB.out.mono HB0.out.size)
    obtain ⟨bP, oP, hpa, hblP, pP⟩ := (HTA.out _ HBW.out).1.p.1.seg.at i hil
    obtain ⟨bQ, oQ, hpb, hblQ, pQ⟩ := (HTA.out _ HBW.out).2.p.1.seg.at i hil
    have hgA := (HTA.out _ HBW.out).1.p.2 i hil
    have hgB := (HTA.out _ HBW.out).2.p.2 i hil
    have hwN := (HWA.out.2.2.1.w i hil).1
    have HGG : Hid (∀ X, Below W.heap.size W X → GSeg 3 X (Y i).wa (Y i).wn (wiX (t.ps.getD i pt0).ws) ∧ GSeg 3 X (Y' i).wa (Y' i).wn (wiX (t.ps.getD i pt0).ws)) := fun X hX => ⟨((HTA.out X hX).1.p.2 i hil).sg.seg, ((HTA.out X hX).2.p.2 i hil).sg.seg⟩
    replace hgA : Good 0 wr (Y i) (t.ps.getD i pt0) := hgA
    replace hgB : Good 0 wr (Y' i) (t.ps.getD i pt0) := hgB
    replace pP : CellsAt wr bP (oP + i * 5) (rwL (Y i)) := pP
    replace pQ : CellsAt wr bQ (oQ + i * 5) (rwL (Y' i)) := pQ
    replace hwN : (Y i).wn ≤ 1048576 := hwN
    generalize t.ps.getD i pt0 = p at hgA hgB HGG
    generalize Y i = yA at pP hgA HGG hwN
    generalize Y' i = yB at pQ hgB HGG
    obtain ⟨nm, en, kd, ms, ws⟩ := p
    obtain ⟨nA, eA, kA, mA, wa, wn, wc⟩ := yA
    obtain ⟨nB, eB, kB, mB, wb, wm, wd⟩ := yB
    obtain rfl : nm = nA := hgA.nm.symm
    obtain rfl : en = eA := hgA.en.symm
    obtain rfl : kd = kA := hgA.kd.symm
    obtain rfl : ms = mA := hgA.ms.symm
    obtain rfl : nm = nB := hgB.nm.symm
    obtain rfl : en = eB := hgB.en.symm
    obtain rfl : kd = kB := hgB.kd.symm
    obtain rfl : ms = mB := hgB.ms.symm
    obtain rfl : wn = wm := hgA.ln.symm.trans hgB.ln
    have hwN' : wn ≤ 1048576 := hwN
    have HGW : Hid (∀ X, Below W.heap.size W X → GSeg 3 X wa wn (wiX ws) ∧ GSeg 3 X wb wn (wiX ws)) := HGG.out
    clear HGG hgA hgB hwN
    have m0 : wr.cell? ⟨bP, oP + i * 5, none⟩ = some (.string nm) := pP 0 _ rfl
    have m1 : wr.cell? ⟨bP, oP + i * 5 + 1, none⟩ = some (.int .i64 en) := pP 1 _ rfl
    have m2 : wr.cell? ⟨bP, oP + i * 5 + 2, none⟩ = some (.int .i64 kd) := pP 2 _ rfl
    have m3 : wr.cell? ⟨bP, oP + i * 5 + 3, none⟩ = some (.int .i64 ms) := pP 3 _ rfl
    have m4 : wr.cell? ⟨bP, oP + i * 5 + 4, none⟩ = some (.slice wa wn wc) := pP 4 _ rfl
    have k0 : wr.cell? ⟨bQ, oQ + i * 5, none⟩ = some (.string nm) := pQ 0 _ rfl
    have k1 : wr.cell? ⟨bQ, oQ + i * 5 + 1, none⟩ = some (.int .i64 en) := pQ 1 _ rfl
    have k2 : wr.cell? ⟨bQ, oQ + i * 5 + 2, none⟩ = some (.int .i64 kd) := pQ 2 _ rfl
    have k3 : wr.cell? ⟨bQ, oQ + i * 5 + 3, none⟩ = some (.int .i64 ms) := pQ 3 _ rfl
    have k4 : wr.cell? ⟨bQ, oQ + i * 5 + 4, none⟩ = some (.slice wb wn wd) := pQ 4 _ rfl
    subst hpa hpb
    have HTX : Hid (∀ X, Below wr.heap.size wr X → ((X.cell? ⟨W.heap.size, 15, none⟩ = some (.slice (some ⟨bP, oP, none⟩) pn pc)) ∧ X.cell? ⟨bP, oP + i * 5, none⟩ = some (.string nm) ∧ X.cell? ⟨bP, oP + i * 5 + 1, none⟩ = some (.int .i64 en) ∧ X.cell? ⟨bP, oP + i * 5 + 2, none⟩ = some (.int .i64 kd) ∧ X.cell? ⟨bP, oP + i * 5 + 3, none⟩ = some (.int .i64 ms) ∧ X.cell? ⟨bP, oP + i * 5 + 4, none⟩ = some (.slice wa wn wc)) ∧ ((X.cell? ⟨W.heap.size + 1, 15, none⟩ = some (.slice (some ⟨bQ, oQ, none⟩) pn pc')) ∧ X.cell? ⟨bQ, oQ + i * 5, none⟩ = some (.string nm) ∧ X.cell? ⟨bQ, oQ + i * 5 + 1, none⟩ = some (.int .i64 en) ∧ X.cell? ⟨bQ, oQ + i * 5 + 2, none⟩ = some (.int .i64 kd) ∧ X.cell? ⟨bQ, oQ + i * 5 + 3, none⟩ = some (.int .i64 ms) ∧ X.cell? ⟨bQ, oQ + i * 5 + 4, none⟩ = some (.slice wb wn wd))) := fun X hX => ⟨⟨(HX1.out X (HB.out.trans (hX.mono HB.out.size))).1.cell 15 _ rfl, kept_cell hX m0, kept_cell hX m1, kept_cell hX m2, kept_cell hX m3, kept_cell hX m4⟩, ⟨(HX1.out X (HB.out.trans (hX.mono HB.out.size))).2.cell 15 _ rfl, kept_cell hX k0, kept_cell hX k1, kept_cell hX k2, kept_cell hX k3, kept_cell hX k4⟩⟩
    clear pP pQ hblP hblQ m0 m1 m2 m3 m4 k0 k1 k2 k3 k4
    go_wp2
    clear v15
    refine wp_region_inv (by kernel_rfl) (by kernel_rfl) (fun A ℓ a' w' => ∃ (N1 : Nat) (N2 : Nat) (x98 x99 x100 x101 x102 x103 x104 x105 x106 x107 x6 x7 : Value), a' = ((((((((((((A.put (some 98) x98).put (some 99) x99).put (some 100) x100).put (some 101) x101).put (some 102) x102).put (some 103) x103).put (some 104) x104).put (some 105) x105).put (some 106) x106).put (some 107) x107).put (some 6) x6).put (some 7) x7) ∧ Sm8 wr W.heap.size (W.heap.size + 1) bP oP bQ oQ pn pc pc' i nm en kd ms wa wb wn wc wd w' N1 N2 (ℓ 0) (ℓ 1) (ℓ 2) (ℓ 3) (ℓ 4) (ℓ 5) (ℓ 6) (ℓ 7) (ℓ 8) (ℓ 9) (ℓ 10) (ℓ 11) (ℓ 12) (ℓ 13) x98 x99 x100 x101 x102 x103 x104 x105 x106 x107 x6 x7) ?_ ?_ ?_ ?_
    · exact ⟨0, 0, u98, u99, u100, u101, u102, u103, u104, u105, u106, u107, u6, u7, (by simp only [Act.put, List.setIfInBounds_toArray, List.set_cons_zero, List.set_cons_succ]), ⟨(fun g => by cases g), (fun g => by cases g), (Below.refl _ _).drew, (fun g => by cases g), (fun g => by cases g), (fun g => by cases g), (fun g => by cases g), (fun g => by cases g), (fun g => by cases g), (fun g => by cases g), (fun g => by cases g), (fun g => by cases g), (fun g => by cases g), (fun g => by cases g), (fun g => by cases g), (fun g => by cases g)⟩⟩
    · intro ℓ a' w' hI hall
      obtain ⟨N1, N2, x98, x99, x100, x101, x102, x103, x104, x105, x106, x107, x6, x7, rfl, hr⟩ := hI
      have hall' : ∀ i, i < 14 → ℓ i = true := hall
      obtain ⟨rfl, hn1, _, hr1⟩ := hr.f10 (hall' 10 (by decide))
      obtain ⟨rfl, hn2, _, hr2⟩ := hr.f11 (hall' 11 (by decide))
      obtain rfl := hr.f4 (hall' 4 (by decide))
      obtain rfl := hr.f9 (hall' 9 (by decide))
      have HF1 : Hid (w'.heap[N1]? = some (.cells #[.string nm, .int .i64 en, .int .i64 kd, .int .i64 ms, .slice wa wn wc] 72 (0, 0))) := hr1 (hall' 12 (by decide))
      have HF2 : Hid (w'.heap[N2]? = some (.cells #[.string nm, .int .i64 en, .int .i64 kd, .int .i64 ms, .slice wb wn wd] 72 (0, 0))) := hr2 (hall' 13 (by decide))
      have HG1 : Hid (Below w1.heap.size w1 w') := HB.out.trans (hr.gb.mono HB.out.size)
      clear hr hall hall' hr1 hr2 hn1 hn2 HTX
      generalize w' = w8 at HF1 HF2 HG1 ⊢
      simp only [Act.put, List.setIfInBounds_toArray, List.set_cons_zero, List.set_cons_succ]
      have d0 := row_cell HF1.out 0 _ rfl
      have d1 := row_cell HF1.out 1 _ rfl
      have d2 := row_cell HF1.out 2 _ rfl
      have d3 := row_cell HF1.out 3 _ rfl
      have d4 := row_cell HF1.out 4 _ rfl
      have e0 := row_cell HF2.out 0 _ rfl
      have e1 := row_cell HF2.out 1 _ rfl
      have e2 := row_cell HF2.out 2 _ rfl
      have e3 := row_cell HF2.out 3 _ rfl
      have e4 := row_cell HF2.out 4 _ rfl
      go_wp2
      clear d0 d1 d2 d3 d4 e0 e1 e2 e3 e4
      go_loopw [8] (fun vi wz => ∃ k : Nat, k ≤ wn ∧ vi = .int .i64 k ∧ Hid (Below w8.heap.size w8 wz)) (fun vi _ => wn - (intOf vi).toNat)
      case atStart => exact ⟨0, by omega, rfl, Below.refl _ _⟩
      case round =>
        rename World => wz
        obtain ⟨k, hk, rfl, HZ⟩ := hrel
        have d4 : wz.cell? ⟨N1, 4, none⟩ = some (.slice wa wn wc) := row_cell (row_below HF1.out HZ.out) 4 _ rfl
        by_cases hkl : k < wn
        rotate_left
        · obtain rfl : k = wn := by omega
          have hnk : ¬ ((k : Int) < (k : Int)) := by omega
          have HBE : Hid (Below w1.heap.size w1 wz) := HG1.out.trans (HZ.out.mono HG1.out.size)
          go_wp2
          go_roundw
          case rel => exact ⟨i + 1, by omega, by first | rfl | go_num, HBE.out⟩
          case measure => simp [intOf]; omega
        have hkl' : (k : Int) < (wn : Int) := by omega
        have e4 : wz.cell? ⟨N2, 4, none⟩ = some (.slice wb wn wd) := row_cell (row_below HF2.out HZ.out) 4 _ rfl
        have HBZ : Hid (Below W.heap.size W wz) := HB0.out.trans ((HG1.out.trans (HZ.out.mono HG1.out.size)).mono HB0.out.size)
        obtain ⟨b1, o1, hwa, hbl1, p1⟩ := (HGW.out _ HBZ.out).1.at k hkl
        obtain ⟨b2, o2, hwb, hbl2, p2⟩ := (HGW.out _ HBZ.out).2.at k hkl
        rw [hwa] at d4
        rw [hwb] at e4
        clear hwa hwb
        simp only [wiX] at p1 p2
        generalize ws.getD k wi0 = y at p1 p2
        obtain ⟨z1, z2, z3⟩ := y
        obtain ⟨q0, q1, q2⟩ := wi_cells p1
        obtain ⟨r0, r1, r2⟩ := wi_cells p2
        clear p1 p2 hbl1 hbl2
        go_wp2
        have G0 := fun X => gr_cell d4 X
        have G1 := fun X => gr_cell e4 X
        have G2 := fun X => gr_cell q0 X
        have G3 := fun X => gr_cell q1 X
        have G4 := fun X => gr_cell q2 X
        have G5 := fun X => gr_cell r0 X
        have G6 := fun X => gr_cell r1 X
        have G7 := fun X => gr_cell r2 X
        have hgr := gr_some wz
        try simp only [Act.put]
        refine region_alike (by kernel_rfl) (by kernel_rfl) ?_
        repeat (go_big_quiet_step (fail))
        refine wpQuiet_nil ?_
        intro _ hw'
        obtain ⟨X1, rfl⟩ := hw'
        have HBX : Hid (Below w8.heap.size w8 X1.w) := HZ.out.trans (X1.h.mono HZ.out.size)
        generalize X1.w = w9 at HBX ⊢
        clear G0 G1 G2 G3 G4 G5 G6 G7 hgr d4 e4 q0 q1 q2 r0 r1 r2
        go_wp2
        go_roundw
        case rel => exact ⟨k + 1, by omega, by first | rfl | go_num, HBX.out⟩
        case measure => simp [intOf]; omega
    · intro ℓ a' w' q o hI ho hi hL hdep K hK
      obtain ⟨N1, N2, x98, x99, x100, x101, x102, x103, x104, x105, x106, x107, x6, x7, rfl, hr⟩ := hI
      have hi7 : q < 14 := hi
      have hcs : q = 0 ∨ q = 1 ∨ q = 2 ∨ q = 3 ∨ q = 4 ∨ q = 5 ∨ q = 6 ∨ q = 7 ∨ q = 8 ∨ q = 9 ∨ q = 10 ∨ q = 11 ∨ q = 12 ∨ q = 13 := by omega
      clear hi hi7
      rcases hcs with rfl | rfl | rfl | rfl | rfl | rfl | rfl | rfl | rfl | rfl | rfl | rfl | rfl | rfl
      · revert hK
        obtain rfl := Option.some.inj ho
        clear hdep ho
        intro hK
        rw [if_pos (by rfl)]
        try simp only [Act.put, List.setIfInBounds_toArray, List.set_cons_zero, List.set_cons_succ]
        go_simp
        exact hK.out _ _ (fun j => if j = 0 then true else ℓ j) ⟨N1, N2, .pointer (some ⟨W.heap.size, 15, none⟩), x99, x100, x101, x102, x103, x104, x105, x106, x107, x6, x7, (by simp only [Act.put, List.setIfInBounds_toArray, List.set_cons_zero, List.set_cons_succ]), ⟨hr.c12, hr.c13, hr.gb, hr.ne, (fun _ => rfl), hr.f1, hr.f2, hr.f3, hr.f4, hr.f5, hr.f6, hr.f7, hr.f8, hr.f9, hr.f10, hr.f11⟩⟩ (if_pos rfl) (fun j hj => if_neg hj)
      · revert hK
        obtain rfl := Option.some.inj ho
        have g0 : ℓ 0 = true := hdep { on := 0, ground := Ground.data } (by simp) rfl
        clear hdep ho
        obtain rfl := hr.f0 g0
        have cc := (HTX.out _ hr.gb).1.1
        intro hK
        rw [if_pos (by rfl)]
        try simp only [Act.put, List.setIfInBounds_toArray, List.set_cons_zero, List.set_cons_succ]
        go_simp
        exact hK.out _ _ (fun j => if j = 1 then true else ℓ j) ⟨N1, N2, .pointer (some ⟨W.heap.size, 15, none⟩), .slice (some ⟨bP, oP, none⟩) pn pc, x100, x101, x102, x103, x104, x105, x106, x107, x6, x7, (by simp only [Act.put, List.setIfInBounds_toArray, List.set_cons_zero, List.set_cons_succ]), ⟨hr.c12, hr.c13, hr.gb, hr.ne, hr.f0, (fun _ => rfl), hr.f2, hr.f3, hr.f4, hr.f5, hr.f6, hr.f7, hr.f8, hr.f9, hr.f10, hr.f11⟩⟩ (if_pos rfl) (fun j hj => if_neg hj)
      · revert hK
        obtain rfl := Option.some.inj ho
        clear hdep ho
        intro hK
        rw [if_pos (by rfl)]
        try simp only [Act.put, List.setIfInBounds_toArray, List.set_cons_zero, List.set_cons_succ]
        go_simp
        exact hK.out _ _ (fun j => if j = 2 then true else ℓ j) ⟨N1, N2, x98, x99, .int .i64 (i : Int), x101, x102, x103, x104, x105, x106, x107, x6, x7, (by simp only [Act.put, List.setIfInBounds_toArray, List.set_cons_zero, List.set_cons_succ]), ⟨hr.c12, hr.c13, hr.gb, hr.ne, hr.f0, hr.f1, (fun _ => rfl), hr.f3, hr.f4, hr.f5, hr.f6, hr.f7, hr.f8, hr.f9, hr.f10, hr.f11⟩⟩ (if_pos rfl) (fun j hj => if_neg hj)
      · revert hK
        obtain rfl := Option.some.inj ho
        have g1 : ℓ 1 = true := hdep { on := 1, ground := Ground.data } (by simp) rfl
        have g2 : ℓ 2 = true := hdep { on := 2, ground := Ground.data } (by simp) rfl
        clear hdep ho
        obtain rfl := hr.f1 g1
        obtain rfl := hr.f2 g2
        intro hK
        rw [if_pos (by rfl)]
        try simp only [Act.put, List.setIfInBounds_toArray, List.set_cons_zero, List.set_cons_succ]
        go_simp
        exact hK.out _ _ (fun j => if j = 3 then true else ℓ j) ⟨N1, N2, x98, .slice (some ⟨bP, oP, none⟩) pn pc, .int .i64 (i : Int), .pointer (some ⟨bP, oP + i * 5, none⟩), x102, x103, x104, x105, x106, x107, x6, x7, (by simp only [Act.put, List.setIfInBounds_toArray, List.set_cons_zero, List.set_cons_succ]), ⟨hr.c12, hr.c13, hr.gb, hr.ne, hr.f0, hr.f1, hr.f2, (fun _ => rfl), hr.f4, hr.f5, hr.f6, hr.f7, hr.f8, hr.f9, hr.f10, hr.f11⟩⟩ (if_pos rfl) (fun j hj => if_neg hj)
      · revert hK
        obtain rfl := Option.some.inj ho
        have g3 : ℓ 3 = true := hdep { on := 3, ground := Ground.data } (by simp) rfl
        clear hdep ho
        obtain rfl := hr.f3 g3
        have cc := (HTX.out _ hr.gb).1.2
        have cc0 := cc.1
        have cc1 := cc.2.1
        have cc2 := cc.2.2.1
        have cc3 := cc.2.2.2.1
        have cc4 := cc.2.2.2.2
        intro hK
        rw [if_pos (by rfl)]
        try simp only [Act.put, List.setIfInBounds_toArray, List.set_cons_zero, List.set_cons_succ]
        go_simp
        exact hK.out _ _ (fun j => if j = 4 then true else ℓ j) ⟨N1, N2, x98, x99, x100, .pointer (some ⟨bP, oP + i * 5, none⟩), .agg #[.string nm, .int .i64 en, .int .i64 kd, .int .i64 ms, .slice wa wn wc], x103, x104, x105, x106, x107, x6, x7, (by simp only [Act.put, List.setIfInBounds_toArray, List.set_cons_zero, List.set_cons_succ]), ⟨hr.c12, hr.c13, hr.gb, hr.ne, hr.f0, hr.f1, hr.f2, hr.f3, (fun _ => rfl), hr.f5, hr.f6, hr.f7, hr.f8, hr.f9, hr.f10, hr.f11⟩⟩ (if_pos rfl) (fun j hj => if_neg hj)
      · revert hK
        obtain rfl := Option.some.inj ho
        clear hdep ho
        intro hK
        rw [if_pos (by rfl)]
        try simp only [Act.put, List.setIfInBounds_toArray, List.set_cons_zero, List.set_cons_succ]
        go_simp
        exact hK.out _ _ (fun j => if j = 5 then true else ℓ j) ⟨N1, N2, x98, x99, x100, x101, x102, .pointer (some ⟨(W.heap.size + 1), 15, none⟩), x104, x105, x106, x107, x6, x7, (by simp only [Act.put, List.setIfInBounds_toArray, List.set_cons_zero, List.set_cons_succ]), ⟨hr.c12, hr.c13, hr.gb, hr.ne, hr.f0, hr.f1, hr.f2, hr.f3, hr.f4, (fun _ => rfl), hr.f6, hr.f7, hr.f8, hr.f9, hr.f10, hr.f11⟩⟩ (if_pos rfl) (fun j hj => if_neg hj)
      · revert hK
        obtain rfl := Option.some.inj ho
        have g5 : ℓ 5 = true := hdep { on := 5, ground := Ground.data } (by simp) rfl
        clear hdep ho
        obtain rfl := hr.f5 g5
        have cc := (HTX.out _ hr.gb).2.1
        intro hK
        rw [if_pos (by rfl)]
        try simp only [Act.put, List.setIfInBounds_toArray, List.set_cons_zero, List.set_cons_succ]
        go_simp
        exact hK.out _ _ (fun j => if j = 6 then true else ℓ j) ⟨N1, N2, x98, x99, x100, x101, x102, .pointer (some ⟨(W.heap.size + 1), 15, none⟩), .slice (some ⟨bQ, oQ, none⟩) pn pc', x105, x106, x107, x6, x7, (by simp only [Act.put, List.setIfInBounds_toArray, List.set_cons_zero, List.set_cons_succ]), ⟨hr.c12, hr.c13, hr.gb, hr.ne, hr.f0, hr.f1, hr.f2, hr.f3, hr.f4, hr.f5, (fun _ => rfl), hr.f7, hr.f8, hr.f9, hr.f10, hr.f11⟩⟩ (if_pos rfl) (fun j hj => if_neg hj)
      · revert hK
        obtain rfl := Option.some.inj ho
        clear hdep ho
        intro hK
        rw [if_pos (by rfl)]
        try simp only [Act.put, List.setIfInBounds_toArray, List.set_cons_zero, List.set_cons_succ]
        go_simp
        exact hK.out _ _ (fun j => if j = 7 then true else ℓ j) ⟨N1, N2, x98, x99, x100, x101, x102, x103, x104, .int .i64 (i : Int), x106, x107, x6, x7, (by simp only [Act.put, List.setIfInBounds_toArray, List.set_cons_zero, List.set_cons_succ]), ⟨hr.c12, hr.c13, hr.gb, hr.ne, hr.f0, hr.f1, hr.f2, hr.f3, hr.f4, hr.f5, hr.f6, (fun _ => rfl), hr.f8, hr.f9, hr.f10, hr.f11⟩⟩ (if_pos rfl) (fun j hj => if_neg hj)
      · revert hK
        obtain rfl := Option.some.inj ho
        have g6 : ℓ 6 = true := hdep { on := 6, ground := Ground.data } (by simp) rfl
        have g7 : ℓ 7 = true := hdep { on := 7, ground := Ground.data } (by simp) rfl
        clear hdep ho
        obtain rfl := hr.f6 g6
        obtain rfl := hr.f7 g7
        intro hK
        rw [if_pos (by rfl)]
        try simp only [Act.put, List.setIfInBounds_toArray, List.set_cons_zero, List.set_cons_succ]
        go_simp
        exact hK.out _ _ (fun j => if j = 8 then true else ℓ j) ⟨N1, N2, x98, x99, x100, x101, x102, x103, .slice (some ⟨bQ, oQ, none⟩) pn pc', .int .i64 (i : Int), .pointer (some ⟨bQ, oQ + i * 5, none⟩), x107, x6, x7, (by simp only [Act.put, List.setIfInBounds_toArray, List.set_cons_zero, List.set_cons_succ]), ⟨hr.c12, hr.c13, hr.gb, hr.ne, hr.f0, hr.f1, hr.f2, hr.f3, hr.f4, hr.f5, hr.f6, hr.f7, (fun _ => rfl), hr.f9, hr.f10, hr.f11⟩⟩ (if_pos rfl) (fun j hj => if_neg hj)
      · revert hK
        obtain rfl := Option.some.inj ho
        have g8 : ℓ 8 = true := hdep { on := 8, ground := Ground.data } (by simp) rfl
        clear hdep ho
        obtain rfl := hr.f8 g8
        have cc := (HTX.out _ hr.gb).2.2
        have cc0 := cc.1
        have cc1 := cc.2.1
        have cc2 := cc.2.2.1
        have cc3 := cc.2.2.2.1
        have cc4 := cc.2.2.2.2
        intro hK
        rw [if_pos (by rfl)]
        try simp only [Act.put, List.setIfInBounds_toArray, List.set_cons_zero, List.set_cons_succ]
        go_simp
        exact hK.out _ _ (fun j => if j = 9 then true else ℓ j) ⟨N1, N2, x98, x99, x100, x101, x102, x103, x104, x105, .pointer (some ⟨bQ, oQ + i * 5, none⟩), .agg #[.string nm, .int .i64 en, .int .i64 kd, .int .i64 ms, .slice wb wn wd], x6, x7, (by simp only [Act.put, List.setIfInBounds_toArray, List.set_cons_zero, List.set_cons_succ]), ⟨hr.c12, hr.c13, hr.gb, hr.ne, hr.f0, hr.f1, hr.f2, hr.f3, hr.f4, hr.f5, hr.f6, hr.f7, hr.f8, (fun _ => rfl), hr.f10, hr.f11⟩⟩ (if_pos rfl) (fun j hj => if_neg hj)
      · revert hK
        obtain rfl := Option.some.inj ho
        clear hdep ho
        have hl12 : ℓ 12 = false := by
          cases h7 : ℓ 12
          · rfl
          · have := (hr.c12 h7).1; rw [this] at hL; cases hL
        have hb9 : Below w'.heap.size w' (w'.alloc (.cells #[.string ByteArray.empty, .int .i64 0, .int .i64 0, .int .i64 0, .slice none 0 0] 72)) := (Below.refl _ _).alloc (Nat.le_refl _) _
        intro hK
        rw [if_pos (by rfl)]
        try simp only [Act.put, List.setIfInBounds_toArray, List.set_cons_zero, List.set_cons_succ]
        go_simp
        exact hK.out _ _ (fun j => if j = 10 then true else ℓ j) ⟨w'.heap.size, N2, x98, x99, x100, x101, x102, x103, x104, x105, x106, x107, .pointer (some ⟨w'.heap.size, 0, none⟩), x7, (by simp only [Act.put, List.setIfInBounds_toArray, List.set_cons_zero, List.set_cons_succ]), ⟨(fun g => absurd (hl12.symm.trans g) Bool.false_ne_true), hr.c13, hr.gb.trans (hb9.mono hr.gb.size), (fun _ g e => by have h := (hr.f11 g).2.2; cases h13 : ℓ 13 <;> (first | (have q := (Array.getElem?_eq_some_iff.1 (h.1 h13)).1; omega) | (have q := (Array.getElem?_eq_some_iff.1 (h.2 h13)).1; omega))), hr.f0, hr.f1, hr.f2, hr.f3, hr.f4, hr.f5, hr.f6, hr.f7, hr.f8, hr.f9, (fun _ => ⟨rfl, hr.gb.size, fun _ => new_row w' _ _ _ rfl, fun g => absurd (hl12.symm.trans g) Bool.false_ne_true⟩), (fun g => ⟨(hr.f11 g).1, (hr.f11 g).2.1, fun s => row_below ((hr.f11 g).2.2.1 s) hb9, fun s => row_below ((hr.f11 g).2.2.2 s) hb9⟩)⟩⟩ (if_pos rfl) (fun j hj => if_neg hj)
      · revert hK
        obtain rfl := Option.some.inj ho
        clear hdep ho
        have hl12 : ℓ 12 = false := by
          cases h7 : ℓ 12
          · rfl
          · have := (hr.c12 h7).2; rw [this] at hL; cases hL
        have hl13 : ℓ 13 = false := by
          cases h7 : ℓ 13
          · rfl
          · have := hr.c13 h7; rw [this] at hl12; cases hl12
        have hb9 : Below w'.heap.size w' (w'.alloc (.cells #[.string ByteArray.empty, .int .i64 0, .int .i64 0, .int .i64 0, .slice none 0 0] 72)) := (Below.refl _ _).alloc (Nat.le_refl _) _
        intro hK
        rw [if_pos (by rfl)]
        try simp only [Act.put, List.setIfInBounds_toArray, List.set_cons_zero, List.set_cons_succ]
        go_simp
        exact hK.out _ _ (fun j => if j = 11 then true else ℓ j) ⟨N1, w'.heap.size, x98, x99, x100, x101, x102, x103, x104, x105, x106, x107, x6, .pointer (some ⟨w'.heap.size, 0, none⟩), (by simp only [Act.put, List.setIfInBounds_toArray, List.set_cons_zero, List.set_cons_succ]), ⟨(fun g => absurd (hl12.symm.trans g) Bool.false_ne_true), hr.c13, hr.gb.trans (hb9.mono hr.gb.size), (fun g _ e => by have q := (Array.getElem?_eq_some_iff.1 ((hr.f10 g).2.2.1 hl12)).1; omega), hr.f0, hr.f1, hr.f2, hr.f3, hr.f4, hr.f5, hr.f6, hr.f7, hr.f8, hr.f9, (fun g => ⟨(hr.f10 g).1, (hr.f10 g).2.1, fun s => row_below ((hr.f10 g).2.2.1 s) hb9, fun s => row_below ((hr.f10 g).2.2.2 s) hb9⟩), (fun _ => ⟨rfl, hr.gb.size, fun _ => new_row w' _ _ _ rfl, fun g => absurd (hl13.symm.trans g) Bool.false_ne_true⟩)⟩⟩ (if_pos rfl) (fun j hj => if_neg hj)
      · replace ho : some ({ dst := none, op := Op.store 72 (Operand.tmp 6) (Operand.tmp 102), type := 0, pos := "laws.go:98", after := #[{ on := 10, ground := Ground.data }, { on := 4, ground := Ground.data }, { on := 0, ground := Ground.phase }, { on := 1, ground := Ground.phase }, { on := 2, ground := Ground.phase }, { on := 3, ground := Ground.phase }, { on := 4, ground := Ground.phase }, { on := 5, ground := Ground.textOnly Departure.lateStores }, { on := 6, ground := Ground.textOnly Departure.lateStores }, { on := 7, ground := Ground.textOnly Departure.lateStores }, { on := 8, ground := Ground.textOnly Departure.lateStores }, { on := 9, ground := Ground.textOnly Departure.lateStores }, { on := 10, ground := Ground.phase }, { on := 11, ground := Ground.phase }], guard := none } : Oper) = some o := ho
        revert hK
        obtain rfl  := Option.some.inj ho
        have g10 : ℓ 10 = true := hdep { on := 10, ground := Ground.data } (by simp) rfl
        have g4 : ℓ 4 = true := hdep { on := 4, ground := Ground.data } (by simp) rfl
        have g11 : ℓ 11 = true := hdep { on := 11, ground := Ground.phase } (by simp) rfl
        clear hdep ho
        obtain ⟨rfl, hn1, hz1, _⟩ := hr.f10 g10
        obtain rfl := hr.f4 g4
        have hne := hr.ne g10 g11
        have hrow := hz1 hL
        have hl13 : ℓ 13 = false := by
          cases h7 : ℓ 13
          · rfl
          · have := hr.c13 h7; rw [this] at hL; cases hL
        intro hK
        rw [if_pos (by rfl)]
        try simp only [Act.put, List.setIfInBounds_toArray, List.set_cons_zero, List.set_cons_succ]
        refine wp_store_row (P := Tryz.prog) 72 (.tmp 6) (.tmp 102) rfl N1 #[.string nm, .int .i64 en, .int .i64 kd, .int .i64 ms, .slice wa wn wc] rfl rfl 72 #[.string ByteArray.empty, .int .i64 0, .int .i64 0, .int .i64 0, .slice none 0 0] hrow (by kernel_rfl) rfl (by simp [Value.oneCell']) ?_
        exact hK.out _ _ (fun j => if j = 12 then true else ℓ j) ⟨N1, N2, x98, x99, x100, x101, .agg #[.string nm, .int .i64 en, .int .i64 kd, .int .i64 ms, .slice wa wn wc], x103, x104, x105, x106, x107, .pointer (some ⟨N1, 0, none⟩), x7, (by simp only [Act.put, List.setIfInBounds_toArray, List.set_cons_zero, List.set_cons_succ]), ⟨(fun _ => ⟨g10, g11⟩), (fun _ => rfl), below_setRow hr.gb hn1 _, hr.ne, hr.f0, hr.f1, hr.f2, hr.f3, hr.f4, hr.f5, hr.f6, hr.f7, hr.f8, hr.f9, (fun _ => ⟨rfl, hn1, (fun g => by cases g), fun _ => setRow_heap _ _ _ _ _ _ hrow⟩), (fun g => ⟨(hr.f11 g).1, (hr.f11 g).2.1, fun s => (setRow_other _ _ _ _ (fun e => hne e.symm)).trans ((hr.f11 g).2.2.1 s), fun s => absurd (hl13.symm.trans s) Bool.false_ne_true⟩)⟩⟩ (if_pos rfl) (fun j hj => if_neg hj)
      · replace ho : some ({ dst := none, op := Op.store 72 (Operand.tmp 7) (Operand.tmp 107), type := 0, pos := "laws.go:98", after := #[{ on := 11, ground := Ground.data }, { on := 9, ground := Ground.data }, { on := 12, ground := Ground.chain }, { on := 0, ground := Ground.phase }, { on := 1, ground := Ground.phase }, { on := 2, ground := Ground.phase }, { on := 3, ground := Ground.phase }, { on := 4, ground := Ground.phase }, { on := 5, ground := Ground.phase }, { on := 6, ground := Ground.phase }, { on := 7, ground := Ground.phase }, { on := 8, ground := Ground.phase }, { on := 9, ground := Ground.phase }, { on := 10, ground := Ground.phase }, { on := 11, ground := Ground.phase }, { on := 12, ground := Ground.phase }], guard := none } : Oper) = some o := ho
        revert hK
        obtain rfl  := Option.some.inj ho
        have g11 : ℓ 11 = true := hdep { on := 11, ground := Ground.data } (by simp) rfl
        have g9 : ℓ 9 = true := hdep { on := 9, ground := Ground.data } (by simp) rfl
        have g12 : ℓ 12 = true := hdep { on := 12, ground := Ground.chain } (by simp) rfl
        have g10 : ℓ 10 = true := hdep { on := 10, ground := Ground.phase } (by simp) rfl
        clear hdep ho
        obtain ⟨rfl, hn2, hz2, _⟩ := hr.f11 g11
        obtain rfl := hr.f9 g9
        have hne := hr.ne g10 g11
        have hrow := hz2 hL
        intro hK
        rw [if_pos (by rfl)]
        try simp only [Act.put, List.setIfInBounds_toArray, List.set_cons_zero, List.set_cons_succ]
        refine wp_store_row (P := Tryz.prog) 72 (.tmp 7) (.tmp 107) rfl N2 #[.string nm, .int .i64 en, .int .i64 kd, .int .i64 ms, .slice wb wn wd] rfl rfl 72 #[.string ByteArray.empty, .int .i64 0, .int .i64 0, .int .i64 0, .slice none 0 0] hrow (by kernel_rfl) rfl (by simp [Value.oneCell']) ?_
        exact hK.out _ _ (fun j => if j = 13 then true else ℓ j) ⟨N1, N2, x98, x99, x100, x101, x102, x103, x104, x105, x106, .agg #[.string nm, .int .i64 en, .int .i64 kd, .int .i64 ms, .slice wb wn wd], x6, .pointer (some ⟨N2, 0, none⟩), (by simp only [Act.put, List.setIfInBounds_toArray, List.set_cons_zero, List.set_cons_succ]), ⟨hr.c12, (fun _ => g12), below_setRow hr.gb hn2 _, hr.ne, hr.f0, hr.f1, hr.f2, hr.f3, hr.f4, hr.f5, hr.f6, hr.f7, hr.f8, hr.f9, (fun g => ⟨(hr.f10 g).1, (hr.f10 g).2.1, fun s => (setRow_other _ _ _ _ hne).trans ((hr.f10 g).2.2.1 s), fun s => (setRow_other _ _ _ _ hne).trans ((hr.f10 g).2.2.2 s)⟩), (fun _ => ⟨rfl, hn2, (fun g => by cases g), fun _ => setRow_heap _ _ _ _ _ _ hrow⟩)⟩⟩ (if_pos rfl) (fun j hj => if_neg hj)
    · rintro a' w' ℓ ℓ' hℓ hI
      rw [← show ℓ = ℓ' from funext hℓ]
      exact hI
end Go.Proofs.YtlomcdgfcocmmaaGreatDoor
namespace Go.Proofs.YtlomcdgfcocmmaaGreatDoor
open Go.ChangeShapes Go.WideShapes Go.ChangeAt Go.RowKit Go.Deep Go.Joins
set_option linter.unusedVariables false

theorem split_merge {ss : List slT} {k : Nat} {f : Int} (hk : k < ss.length) : mrgL (splL ss k f) k = ss := by
  have h0 := splL_get (f := f) hk k
  have h1 := splL_get (f := f) hk (k + 1)
  rw [if_neg (Nat.lt_irrefl _), if_pos rfl] at h0
  rw [if_neg (by omega), if_neg (by omega), if_pos rfl] at h1
  have hl : (ss.take k).length = k := by rw [List.length_take]; omega
  unfold mrgL
  rw [h0, h1]
  have ht : (splL ss k f).take k = ss.take k := by
    unfold splL
    rw [List.append_assoc, List.take_append_of_le_length (by omega), List.take_of_length_le (by omega)]
  have hd : (splL ss k f).drop (k + 2) = ss.drop (k + 1) := by
    unfold splL
    rw [List.drop_append_of_le_length (by simp only [List.length_append, List.length_cons, List.length_nil]; omega), List.drop_of_length_le (by simp only [List.length_append, List.length_cons, List.length_nil]; omega)]
    rfl
  rw [ht, hd]
  have e : f + ((ss.getD k sl0).2.2 - f) = (ss.getD k sl0).2.2 := by omega
  show ss.take k ++ [((ss.getD k sl0).1, (ss.getD k sl0).2.1, f + ((ss.getD k sl0).2.2 - f))] ++ ss.drop (k + 1) = ss
  rw [e]
  have e2 : ((ss.getD k sl0).1, (ss.getD k sl0).2.1, (ss.getD k sl0).2.2) = ss[k] := by
    rw [List.getD_eq_getElem?_getD, List.getElem?_eq_getElem hk]
    rfl
  rw [e2, List.append_assoc]
  show ss.take k ++ (ss[k] :: ss.drop (k + 1)) = ss
  rw [← List.drop_eq_getElem_cons hk]
  exact List.take_append_drop k ss
theorem split_share {t : Tb} {k : Nat} {f x : Int} (hk : k < t.ss.length) : shareN { t with ss := splL t.ss k f } x (t.ss.length + 1) = shareN t x t.ss.length - (if (t.ss.getD k sl0).1 = x then t.pad + t.grd else 0) := by
  have a : ∀ i, i ≤ k → shareN { t with ss := splL t.ss k f } x i = shareN t x i := by
    intro i
    induction i with
    | zero => intro _; rfl
    | succ i ih =>
      intro hi
      have h := splL_get (f := f) hk i
      rw [if_pos (by omega)] at h
      show shareN { t with ss := splL t.ss k f } x i + (if ((splL t.ss k f).getD i sl0).1 = x then ((splL t.ss k f).getD i sl0).2.2 - (t.pad + t.grd) else 0) = shareN t x i + (if (t.ss.getD i sl0).1 = x then (t.ss.getD i sl0).2.2 - (t.pad + t.grd) else 0)
      rw [ih (by omega), h]
  have b : ∀ j, shareN { t with ss := splL t.ss k f } x (k + 2 + j) = shareN t x (k + 1 + j) - (if (t.ss.getD k sl0).1 = x then t.pad + t.grd else 0) := by
    intro j
    induction j with
    | zero =>
      have h0 := splL_get (f := f) hk k
      have h1 := splL_get (f := f) hk (k + 1)
      rw [if_neg (Nat.lt_irrefl _), if_pos rfl] at h0
      rw [if_neg (by omega), if_neg (by omega), if_pos rfl] at h1
      show (shareN { t with ss := splL t.ss k f } x k + (if ((splL t.ss k f).getD k sl0).1 = x then ((splL t.ss k f).getD k sl0).2.2 - (t.pad + t.grd) else 0)) + (if ((splL t.ss k f).getD (k + 1) sl0).1 = x then ((splL t.ss k f).getD (k + 1) sl0).2.2 - (t.pad + t.grd) else 0) = (shareN t x k + (if (t.ss.getD k sl0).1 = x then (t.ss.getD k sl0).2.2 - (t.pad + t.grd) else 0)) - _
      rw [a k (Nat.le_refl _), h0, h1]
      by_cases c : (t.ss.getD k sl0).1 = x
      · simp only [if_pos c]; omega
      · simp only [if_neg c]; omega
    | succ j ih =>
      have h := splL_get (f := f) hk (k + 2 + j)
      rw [if_neg (by omega), if_neg (by omega), if_neg (by omega), show k + 2 + j - 1 = k + 1 + j by omega] at h
      show shareN { t with ss := splL t.ss k f } x (k + 2 + j) + (if ((splL t.ss k f).getD (k + 2 + j) sl0).1 = x then ((splL t.ss k f).getD (k + 2 + j) sl0).2.2 - (t.pad + t.grd) else 0) = (shareN t x (k + 1 + j) + (if (t.ss.getD (k + 1 + j) sl0).1 = x then (t.ss.getD (k + 1 + j) sl0).2.2 - (t.pad + t.grd) else 0)) - _
      rw [ih, h]
      omega
  have h := b (t.ss.length - (k + 1))
  rw [show k + 2 + (t.ss.length - (k + 1)) = t.ss.length + 1 by omega, show k + 1 + (t.ss.length - (k + 1)) = t.ss.length by omega] at h
  exact h
theorem split_len {ss : List slT} {k : Nat} {f : Int} (hk : k < ss.length) : lenN (splL ss k f) (ss.length + 1) = lenN ss ss.length := by
  have a : ∀ i, i ≤ k → lenN (splL ss k f) i = lenN ss i := by
    intro i
    induction i with
    | zero => intro _; rfl
    | succ i ih =>
      intro hi
      have h := splL_get (f := f) hk i
      rw [if_pos (by omega)] at h
      show lenN (splL ss k f) i + ((splL ss k f).getD i sl0).2.2 = lenN ss i + (ss.getD i sl0).2.2
      rw [ih (by omega), h]
  have b : ∀ j, lenN (splL ss k f) (k + 2 + j) = lenN ss (k + 1 + j) := by
    intro j
    induction j with
    | zero =>
      have h0 := splL_get (f := f) hk k
      have h1 := splL_get (f := f) hk (k + 1)
      rw [if_neg (Nat.lt_irrefl _), if_pos rfl] at h0
      rw [if_neg (by omega), if_neg (by omega), if_pos rfl] at h1
      show (lenN (splL ss k f) k + ((splL ss k f).getD k sl0).2.2) + ((splL ss k f).getD (k + 1) sl0).2.2 = lenN ss k + (ss.getD k sl0).2.2
      rw [a k (Nat.le_refl _), h0, h1]
      show lenN ss k + f + ((ss.getD k sl0).2.2 - f) = lenN ss k + (ss.getD k sl0).2.2
      omega
    | succ j ih =>
      have h := splL_get (f := f) hk (k + 2 + j)
      rw [if_neg (by omega), if_neg (by omega), if_neg (by omega), show k + 2 + j - 1 = k + 1 + j by omega] at h
      show lenN (splL ss k f) (k + 2 + j) + ((splL ss k f).getD (k + 2 + j) sl0).2.2 = lenN ss (k + 1 + j) + (ss.getD (k + 1 + j) sl0).2.2
      rw [ih, h]
  have h := b (ss.length - (k + 1))
  rw [show k + 2 + (ss.length - (k + 1)) = ss.length + 1 by omega, show k + 1 + (ss.length - (k + 1)) = ss.length by omega] at h
  exact h
/-- Behind a split that may be, the tables are sound and the two may be merged. -/
theorem split_can {t : Tb} {k : Nat} {f : Int} (h : CanS t (k : Int) f) : Sd { t with ss := splL t.ss k f } ∧ CanG { t with ss := splL t.ss k f } (k : Int) ∧ { ({ t with ss := splL t.ss k f } : Tb) with ss := mrgL (splL t.ss k f) k } = t := by
  obtain ⟨hd, ⟨_, hx⟩, h16, h1, h2⟩ := h
  have hk : k < t.ss.length := by omega
  have e : ((k : Int)).toNat = k := by simp
  rw [e] at h2
  have h4 : 1 ≤ t.pad ∧ t.pad ≤ 5000 := hd 4 (by omega)
  have h5 : 1 ≤ t.grd ∧ t.grd ≤ 5000 := hd 5 (by omega)
  have hs : Sd { t with ss := splL t.ss k f } := sd_slotsP hd (splL_ok (slots_sd hd) ⟨hk, h16, h1, h2⟩ (by omega))
  have g0 := splL_get (f := f) hk k
  have g1 := splL_get (f := f) hk (k + 1)
  rw [if_neg (Nat.lt_irrefl _), if_pos rfl] at g0
  rw [if_neg (by omega), if_neg (by omega), if_pos rfl] at g1
  have hl := splL_len (f := f) hk
  refine ⟨hs, ⟨hs, ⟨by omega, ?_⟩, ?_, ?_⟩, ?_⟩
  · show (k : Int) + 1 < ((splL t.ss k f).length : Int)
    omega
  · show ((splL t.ss k f).getD ((k : Int)).toNat sl0).1 = ((splL t.ss k f).getD (((k : Int)).toNat + 1) sl0).1
    rw [e, g0, g1]
  · show ((splL t.ss k f).getD ((k : Int)).toNat sl0).2.1 + ((splL t.ss k f).getD ((k : Int)).toNat sl0).2.2 = ((splL t.ss k f).getD (((k : Int)).toNat + 1) sl0).2.1
    rw [e, g0, g1]
  · rw [split_merge hk]
end Go.Proofs.YtlomcdgfcocmmaaGreatDoor
namespace Go.Proofs.YtlomcdgfcocmmaaGreatDoor
open Go.ChangeShapes Go.WideShapes Go.ChangeAt Go.RowKit Go.Deep Go.Joins
set_option linter.unusedVariables false

theorem share_small {t : Tb} (h : Sd t) (x : Int) : 0 ≤ shareN t x t.ss.length ∧ shareN t x t.ss.length ≤ 1000000 := by
  obtain ⟨⟨hp1, hp2⟩, ⟨hg1, hg2⟩, hm, hn16, hlf⟩ := sd_slots h
  have a : ∀ i, i ≤ t.ss.length → 0 ≤ shareN t x i ∧ shareN t x i ≤ 5000 * (i : Int) := by
    intro i
    induction i with
    | zero => intro _; exact ⟨Int.le_refl _, by show (0 : Int) ≤ _; omega⟩
    | succ i ih =>
      intro hi
      have h1 := ih (by omega)
      have h2 := hlf i (by omega)
      by_cases hx : (t.ss.getD i sl0).1 = x
      · rw [share_yes hx]; omega
      · rw [share_no hx]; omega
  have := a _ (Nat.le_refl _)
  omega
theorem SpA.uniq {t : Tb} {x f : Int} {R R' : Tb} {q q' : Bool} (h : SpA t x f R q) (g : SpA t x f R' q') : R = R' ∧ q = q' := by
  rcases h with ⟨h1, h2, h3⟩ | ⟨h1, h2, h3⟩ <;> rcases g with ⟨g1, g2, g3⟩ | ⟨g1, g2, g3⟩
  · exact ⟨h2.trans g2.symm, h3.trans g3.symm⟩
  · exact absurd g1 h1
  · exact absurd h1 g1
  · exact ⟨h2.trans g2.symm, h3.trans g3.symm⟩
theorem spec_split_all (t : Tb) (a : Ad) (x f : Int) (w : World) (hm : TM 0 w t a) (hw : TW t a) (hs : TS a) (hf : -9223372036854775808 ≤ f ∧ f ≤ 9223372036854775807) :
    Calls Tryz.prog 9 #[tbV t a, .int .i64 x, .int .i64 f] w fun e w' => ∃ R ar q, e = .returned (.tuple #[tbV R ar, .bool q]) ∧ SpA t x f R q ∧ Below w.heap.size w w' := by
  by_cases hc : CanS t x f
  · obtain ⟨k, rfl⟩ : ∃ k : Nat, x = (k : Int) := ⟨x.toNat, by have := hc.2.1.1; omega⟩
    exact (spec_split_yes t a k f w hm hw hs hc).mono fun e w' ⟨R, ar, q, h1, h2, h3, _⟩ => ⟨R, ar, q, h1, h2, h3⟩
  · exact (spec_split_no t a x f w hm hw hs hc hf).mono fun e w' ⟨R, ar, q, h1, h2, h3, _⟩ => ⟨R, ar, q, h1, h2, h3⟩
/-- What the law needs of its draw. -/
structure DrP (w' : World) (T : Tb) (A : Ad) (f : Int) : Prop where
  t : TM 0 w' T A
  w : TW T A
  s : TS A
  c1 : A.pn ≤ A.pc
  c2 : A.sn ≤ A.sc
  f : -9223372036854775808 ≤ f ∧ f ≤ 9223372036854775807
/-- Sound tables, lying in memory from here on. -/
structure GG (W : World) (T : Tb) (A : Ad) : Prop where
  d : Sd T
  m : ∀ X, Below W.heap.size W X → TM 0 X T A ∧ TabE X
  w : TW T A
  s : TS A
  c : A.pn ≤ A.pc
theorem gap_fun (W : World) : ∃ G : Tb → Int, (∀ T A, GG W T A → ∀ x : Gr W, Calls Tryz.prog 15 #[tbV T A] x.w fun e w' => e = .returned (.int .i64 (G T)) ∧ Below x.w.heap.size x.w w') ∧ ∀ T, G T = T.maj - lenN T.ss T.ss.length :=
  ⟨fun T => T.maj - lenN T.ss T.ss.length, fun T A h x => (impl_gap T A x.w (h.m _ x.h).1 h.w h.s (h.m _ x.h).2 h.c).mono fun e w' ⟨⟨r, h1, h2⟩, h3⟩ => by
    rcases h2 with ⟨h2, _⟩ | ⟨_, h2⟩
    · exact absurd h.d h2
    · exact ⟨by rw [h1, h2], h3⟩, fun _ => rfl⟩
theorem share_fun (W : World) (p : Int) : ∃ G : Tb → Int, (∀ T A, GG W T A → ∀ x : Gr W, Calls Tryz.prog 14 #[tbV T A, .int .i64 p] x.w fun e w' => e = .returned (.int .i64 (G T)) ∧ Below x.w.heap.size x.w w') ∧ ∀ T, G T = shareN T p T.ss.length :=
  ⟨fun T => shareN T p T.ss.length, fun T A h x => (impl_share T A p x.w (h.m _ x.h).1 h.w h.s (h.m _ x.h).2 h.c).mono fun e w' ⟨⟨r, h1, h2⟩, h3⟩ => by
    rcases h2 with ⟨h2, _⟩ | ⟨_, h2⟩
    · exact absurd h.d h2
    · exact ⟨by rw [h1, h2], h3⟩, fun _ => rfl⟩
/-- What the tables of a split that was made keep. -/
structure SpY (t R R2 : Tb) (ad ar : Ad) (k : Nat) (lv : Int) : Prop where
  sd : Sd t
  sr : Sd R
  eq : R2 = t
  kb : k < ad.sn
  n : ar.sn = ad.sn + 1
  g : lenN R.ss R.ss.length = lenN t.ss t.ss.length
  m : R.maj = t.maj
  lw : IntKind.i64.wrap (t.pad + t.grd) = lv
  lvb : 0 ≤ lv ∧ lv ≤ 10000
  sh : ∀ p : Int, shareN R p R.ss.length = shareN t p t.ss.length - (if (t.ss.getD k sl0).1 = p then lv else 0)
theorem spy {t R R2 : Tb} {ad ar : Ad} {x f : Int} {q q2 : Bool} (h : SpA t x f R q) (hq : q = true) (hg : MgA R x R2 q2) (hw : TW t ad) (hr : TW R ar) : q2 = true ∧ ∃ k lv, x = ((k : Nat) : Int) ∧ SpY t R R2 ad ar k lv := by
  subst hq
  rcases h with ⟨_, _, h⟩ | ⟨hc, hR, _⟩
  · cases h
  obtain ⟨k, rfl⟩ : ∃ k : Nat, x = (k : Int) := ⟨x.toNat, by have := hc.2.1.1; omega⟩
  have e : ((k : Int)).toNat = k := by simp
  rw [e] at hR
  obtain ⟨s1, s2, s3⟩ := split_can hc
  have hk : k < t.ss.length := by have := hc.2.1.2; omega
  have hl := splL_len (f := f) hk
  have h4 : 1 ≤ t.pad ∧ t.pad ≤ 5000 := hc.1 4 (by omega)
  have h5 : 1 ≤ t.grd ∧ t.grd ≤ 5000 := hc.1 5 (by omega)
  have hsl := hw.sl
  have hrl := hr.sl
  rw [hR] at hrl
  have hrl' : (splL t.ss k f).length = ar.sn := hrl
  subst hR
  rcases hg with ⟨h, _, _⟩ | ⟨_, h2, h3⟩
  · exact absurd s2 h
  rw [e] at h2
  refine ⟨h3, k, t.pad + t.grd, rfl, hc.1, s1, h2.trans s3, by omega, by omega, ?_, rfl, by rw [IntKind.wrap_i64]; omega, by omega, fun p => ?_⟩
  · show lenN (splL t.ss k f) (splL t.ss k f).length = _
    rw [hl]; exact split_len hk
  · show shareN _ p (splL t.ss k f).length = _
    rw [hl]; exact split_share hk
set_option maxRecDepth 40000 in
set_option maxHeartbeats 16000000 in
theorem walk_split0 (a : Option Addr) (cap n : Nat) (w : World) (hdr : n ≤ 1048576 → Calls Tryz.prog 8 #[.slice a n cap] w fun e w' => ∃ T A x f, e = .returned (.tuple #[tbV T A, .int .i64 x, .int .i64 f]) ∧ DrP w' T A f ∧ Below w.heap.size w w') (he : TabE w) :
    Calls Tryz.prog 3 #[.slice a n cap] w fun e w' => e = .returned (.bool true) ∧ Below w.heap.size w w' := by
  by_cases hn : n ≤ 1048576
  rotate_left
  · have HY : Hid _ := big_yes a n cap w hn
    clear hdr
    go_enter Tryz.func3, Tryz.ntmps3
    go_wp2_with fail
    refine Calls.mono HY.out ?_
    rintro e w1 ⟨rfl, rfl⟩
    go_wp2
    go_ret
    exact ⟨rfl, Below.refl _ _⟩
  have HNO : Hid _ := big_no a n cap w hn
  have HDR : Hid _ := hdr hn
  have HTE : Hid (∀ X, Below w.heap.size w X → TabE X) := fun X hX => he.below hX
  clear hdr he
  go_enter Tryz.func3, Tryz.ntmps3
  go_wp2_with fail
  refine Calls.mono HNO.out ?_
  rintro e w ⟨rfl, rfl⟩
  go_wp2_with fail
  refine Calls.mono HDR.out ?_
  rintro e w1 ⟨t, ad, x, f, rfl, hD, hb⟩
  have HNR1 : Hid ((w1.alloc (.cells #[.int .i64 0, .int .i64 0, .int .i64 0, .int .i64 0, .int .i64 0, .int .i64 0, .int .i64 0, .int .i64 0, .int .i64 0, .int .i64 0, .int .i64 0, .int .i64 0, .int .i64 0, .int .i64 0, .int .i64 0, .slice none 0 0, .slice none 0 0, .slice none 0 0, .slice none 0 0] 33)).heap[w1.heap.size]? = some (.cells #[.int .i64 0, .int .i64 0, .int .i64 0, .int .i64 0, .int .i64 0, .int .i64 0, .int .i64 0, .int .i64 0, .int .i64 0, .int .i64 0, .int .i64 0, .int .i64 0, .int .i64 0, .int .i64 0, .int .i64 0, .slice none 0 0, .slice none 0 0, .slice none 0 0, .slice none 0 0] 33 (0, 0))) := new_row w1 _ _ _ rfl
  have hbV : Below w1.heap.size w1 ((w1.alloc (.cells #[.int .i64 0, .int .i64 0, .int .i64 0, .int .i64 0, .int .i64 0, .int .i64 0, .int .i64 0, .int .i64 0, .int .i64 0, .int .i64 0, .int .i64 0, .int .i64 0, .int .i64 0, .int .i64 0, .int .i64 0, .slice none 0 0, .slice none 0 0, .slice none 0 0, .slice none 0 0] 33)).setRow w1.heap.size (tbA t ad)) := below_setRow ((Below.refl _ _).alloc (Nat.le_refl _) _) (Nat.le_refl _) _
  have HX : Hid (∀ X, Below ((w1.alloc (.cells #[.int .i64 0, .int .i64 0, .int .i64 0, .int .i64 0, .int .i64 0, .int .i64 0, .int .i64 0, .int .i64 0, .int .i64 0, .int .i64 0, .int .i64 0, .int .i64 0, .int .i64 0, .int .i64 0, .int .i64 0, .slice none 0 0, .slice none 0 0, .slice none 0 0, .slice none 0 0] 33)).setRow w1.heap.size (tbA t ad)).heap.size ((w1.alloc (.cells #[.int .i64 0, .int .i64 0, .int .i64 0, .int .i64 0, .int .i64 0, .int .i64 0, .int .i64 0, .int .i64 0, .int .i64 0, .int .i64 0, .int .i64 0, .int .i64 0, .int .i64 0, .int .i64 0, .int .i64 0, .slice none 0 0, .slice none 0 0, .slice none 0 0, .slice none 0 0] 33)).setRow w1.heap.size (tbA t ad)) X → X.heap[w1.heap.size]? = some (.cells (tbA t ad) 33 (0, 0))) := fun X hX => row_below (setRow_heap _ _ _ _ _ _ HNR1.out) hX
  have HB1 : Hid (Below w.heap.size w ((w1.alloc (.cells #[.int .i64 0, .int .i64 0, .int .i64 0, .int .i64 0, .int .i64 0, .int .i64 0, .int .i64 0, .int .i64 0, .int .i64 0, .int .i64 0, .int .i64 0, .int .i64 0, .int .i64 0, .int .i64 0, .int .i64 0, .slice none 0 0, .slice none 0 0, .slice none 0 0, .slice none 0 0] 33)).setRow w1.heap.size (tbA t ad))) := hb.trans (hbV.mono hb.size)
  have HTM : Hid (∀ X, Below ((w1.alloc (.cells #[.int .i64 0, .int .i64 0, .int .i64 0, .int .i64 0, .int .i64 0, .int .i64 0, .int .i64 0, .int .i64 0, .int .i64 0, .int .i64 0, .int .i64 0, .int .i64 0, .int .i64 0, .int .i64 0, .int .i64 0, .slice none 0 0, .slice none 0 0, .slice none 0 0, .slice none 0 0] 33)).setRow w1.heap.size (tbA t ad)).heap.size ((w1.alloc (.cells #[.int .i64 0, .int .i64 0, .int .i64 0, .int .i64 0, .int .i64 0, .int .i64 0, .int .i64 0, .int .i64 0, .int .i64 0, .int .i64 0, .int .i64 0, .int .i64 0, .int .i64 0, .int .i64 0, .int .i64 0, .slice none 0 0, .slice none 0 0, .slice none 0 0, .slice none 0 0] 33)).setRow w1.heap.size (tbA t ad)) X → TM 0 X t ad) := fun X hX => hD.t.below (hbV.trans (hX.mono hbV.size))
  have HDW : Hid (DrP w1 t ad f) := hD
  clear hb hbV hD HDR HNO
  go_wp2_with (first | (refine wpList_store_row rfl 33 (.tmp 3) (.tmp 19) rfl w1.heap.size (tbA t ad) rfl rfl 33 (#[.int .i64 0, .int .i64 0, .int .i64 0, .int .i64 0, .int .i64 0, .int .i64 0, .int .i64 0, .int .i64 0, .int .i64 0, .int .i64 0, .int .i64 0, .int .i64 0, .int .i64 0, .int .i64 0, .int .i64 0, .slice none 0 0, .slice none 0 0, .slice none 0 0, .slice none 0 0]) HNR1.out (by kernel_rfl) rfl (by simp [Value.oneCell']) ?_) | (refine wpList_load_row rfl 33 (.tmp 3) rfl w1.heap.size rfl 33 (tbA t ad) (0, 0) _ (HX.out _ (Below.refl _ _)) Tryz.underlying33 rfl (by kernel_rfl) ?_) | fail)
  clear HNR1
  revert HX HB1 HTM
  generalize ((w1.alloc (.cells #[.int .i64 0, .int .i64 0, .int .i64 0, .int .i64 0, .int .i64 0, .int .i64 0, .int .i64 0, .int .i64 0, .int .i64 0, .int .i64 0, .int .i64 0, .int .i64 0, .int .i64 0, .int .i64 0, .int .i64 0, .slice none 0 0, .slice none 0 0, .slice none 0 0, .slice none 0 0] 33)).setRow w1.heap.size (tbA t ad)) = V
  generalize w1.heap.size = N
  intro HX HB1 HTM
  refine Calls.mono (spec_split_all t ad x f V (HTM.out _ (Below.refl _ _)) HDW.out.w HDW.out.s HDW.out.f) ?_
  rintro e w2 ⟨R0, ar0, q0, rfl, hq, hb2⟩
  have HQ : Hid (SpA t x f R0 q0) := hq
  have HNR2 : Hid ((w2.alloc (.cells #[.int .i64 0, .int .i64 0, .int .i64 0, .int .i64 0, .int .i64 0, .int .i64 0, .int .i64 0, .int .i64 0, .int .i64 0, .int .i64 0, .int .i64 0, .int .i64 0, .int .i64 0, .int .i64 0, .int .i64 0, .slice none 0 0, .slice none 0 0, .slice none 0 0, .slice none 0 0] 33)).heap[w2.heap.size]? = some (.cells #[.int .i64 0, .int .i64 0, .int .i64 0, .int .i64 0, .int .i64 0, .int .i64 0, .int .i64 0, .int .i64 0, .int .i64 0, .int .i64 0, .int .i64 0, .int .i64 0, .int .i64 0, .int .i64 0, .int .i64 0, .slice none 0 0, .slice none 0 0, .slice none 0 0, .slice none 0 0] 33 (0, 0))) := new_row w2 _ _ _ rfl
  have hbV : Below w2.heap.size w2 ((w2.alloc (.cells #[.int .i64 0, .int .i64 0, .int .i64 0, .int .i64 0, .int .i64 0, .int .i64 0, .int .i64 0, .int .i64 0, .int .i64 0, .int .i64 0, .int .i64 0, .int .i64 0, .int .i64 0, .int .i64 0, .int .i64 0, .slice none 0 0, .slice none 0 0, .slice none 0 0, .slice none 0 0] 33)).setRow w2.heap.size (tbA R0 ar0)) := below_setRow ((Below.refl _ _).alloc (Nat.le_refl _) _) (Nat.le_refl _) _
  have HB2 : Hid (Below V.heap.size V ((w2.alloc (.cells #[.int .i64 0, .int .i64 0, .int .i64 0, .int .i64 0, .int .i64 0, .int .i64 0, .int .i64 0, .int .i64 0, .int .i64 0, .int .i64 0, .int .i64 0, .int .i64 0, .int .i64 0, .int .i64 0, .int .i64 0, .slice none 0 0, .slice none 0 0, .slice none 0 0, .slice none 0 0] 33)).setRow w2.heap.size (tbA R0 ar0))) := hb2.trans (hbV.mono hb2.size)
  clear hq hb2 hbV
  go_wp2_with (first | (refine wpList_store_row rfl 33 (.tmp 6) (.tmp 27) rfl w2.heap.size (tbA R0 ar0) rfl rfl 33 (#[.int .i64 0, .int .i64 0, .int .i64 0, .int .i64 0, .int .i64 0, .int .i64 0, .int .i64 0, .int .i64 0, .int .i64 0, .int .i64 0, .int .i64 0, .int .i64 0, .int .i64 0, .int .i64 0, .int .i64 0, .slice none 0 0, .slice none 0 0, .slice none 0 0, .slice none 0 0]) HNR2.out (by kernel_rfl) rfl (by simp [Value.oneCell']) ?_) | (refine wpList_load_row rfl 33 (.tmp 3) rfl N rfl 33 (tbA t ad) (0, 0) _ (HX.out _ HB2.out) Tryz.underlying33 rfl (by kernel_rfl) ?_) | fail)
  clear HNR2
  revert HB2
  generalize ((w2.alloc (.cells #[.int .i64 0, .int .i64 0, .int .i64 0, .int .i64 0, .int .i64 0, .int .i64 0, .int .i64 0, .int .i64 0, .int .i64 0, .int .i64 0, .int .i64 0, .int .i64 0, .int .i64 0, .int .i64 0, .int .i64 0, .slice none 0 0, .slice none 0 0, .slice none 0 0, .slice none 0 0] 33)).setRow w2.heap.size (tbA R0 ar0)) = U
  intro HB2
  refine Calls.mono (impl_split t ad x f U (HTM.out _ HB2.out) HDW.out.w HDW.out.s (HTE.out U (HB1.out.trans (HB2.out.mono HB1.out.size))) HDW.out.c1 HDW.out.c2 HDW.out.f) ?_
  rintro e w3 ⟨R, ar, q, rfl, hq, hb3, hOT⟩
  obtain ⟨rfl, rfl⟩ := SpA.uniq hq HQ.out
  have HNR3 : Hid ((w3.alloc (.cells #[.int .i64 0, .int .i64 0, .int .i64 0, .int .i64 0, .int .i64 0, .int .i64 0, .int .i64 0, .int .i64 0, .int .i64 0, .int .i64 0, .int .i64 0, .int .i64 0, .int .i64 0, .int .i64 0, .int .i64 0, .slice none 0 0, .slice none 0 0, .slice none 0 0, .slice none 0 0] 33)).heap[w3.heap.size]? = some (.cells #[.int .i64 0, .int .i64 0, .int .i64 0, .int .i64 0, .int .i64 0, .int .i64 0, .int .i64 0, .int .i64 0, .int .i64 0, .int .i64 0, .int .i64 0, .int .i64 0, .int .i64 0, .int .i64 0, .int .i64 0, .slice none 0 0, .slice none 0 0, .slice none 0 0, .slice none 0 0] 33 (0, 0))) := new_row w3 _ _ _ rfl
  have hbV : Below w3.heap.size w3 ((w3.alloc (.cells #[.int .i64 0, .int .i64 0, .int .i64 0, .int .i64 0, .int .i64 0, .int .i64 0, .int .i64 0, .int .i64 0, .int .i64 0, .int .i64 0, .int .i64 0, .int .i64 0, .int .i64 0, .int .i64 0, .int .i64 0, .slice none 0 0, .slice none 0 0, .slice none 0 0, .slice none 0 0] 33)).setRow w3.heap.size (tbA R ar)) := below_setRow ((Below.refl _ _).alloc (Nat.le_refl _) _) (Nat.le_refl _) _
  have HB3 : Hid (Below V.heap.size V ((w3.alloc (.cells #[.int .i64 0, .int .i64 0, .int .i64 0, .int .i64 0, .int .i64 0, .int .i64 0, .int .i64 0, .int .i64 0, .int .i64 0, .int .i64 0, .int .i64 0, .int .i64 0, .int .i64 0, .int .i64 0, .int .i64 0, .slice none 0 0, .slice none 0 0, .slice none 0 0, .slice none 0 0] 33)).setRow w3.heap.size (tbA R ar))) := HB2.out.trans ((hb3.trans (hbV.mono hb3.size)).mono HB2.out.size)
  have HX3 : Hid (∀ X, Below ((w3.alloc (.cells #[.int .i64 0, .int .i64 0, .int .i64 0, .int .i64 0, .int .i64 0, .int .i64 0, .int .i64 0, .int .i64 0, .int .i64 0, .int .i64 0, .int .i64 0, .int .i64 0, .int .i64 0, .int .i64 0, .int .i64 0, .slice none 0 0, .slice none 0 0, .slice none 0 0, .slice none 0 0] 33)).setRow w3.heap.size (tbA R ar)).heap.size ((w3.alloc (.cells #[.int .i64 0, .int .i64 0, .int .i64 0, .int .i64 0, .int .i64 0, .int .i64 0, .int .i64 0, .int .i64 0, .int .i64 0, .int .i64 0, .int .i64 0, .int .i64 0, .int .i64 0, .int .i64 0, .int .i64 0, .slice none 0 0, .slice none 0 0, .slice none 0 0, .slice none 0 0] 33)).setRow w3.heap.size (tbA R ar)) X → X.heap[w3.heap.size]? = some (.cells (tbA R ar) 33 (0, 0))) := fun X hX => row_below (setRow_heap _ _ _ _ _ _ HNR3.out) hX
  have HTMR : Hid (∀ X, Below ((w3.alloc (.cells #[.int .i64 0, .int .i64 0, .int .i64 0, .int .i64 0, .int .i64 0, .int .i64 0, .int .i64 0, .int .i64 0, .int .i64 0, .int .i64 0, .int .i64 0, .int .i64 0, .int .i64 0, .int .i64 0, .int .i64 0, .slice none 0 0, .slice none 0 0, .slice none 0 0, .slice none 0 0] 33)).setRow w3.heap.size (tbA R ar)).heap.size ((w3.alloc (.cells #[.int .i64 0, .int .i64 0, .int .i64 0, .int .i64 0, .int .i64 0, .int .i64 0, .int .i64 0, .int .i64 0, .int .i64 0, .int .i64 0, .int .i64 0, .int .i64 0, .int .i64 0, .int .i64 0, .int .i64 0, .slice none 0 0, .slice none 0 0, .slice none 0 0, .slice none 0 0] 33)).setRow w3.heap.size (tbA R ar)) X → TM 0 X R ar) := fun X hX => hOT.m.below (hbV.trans (hX.mono hbV.size))
  have HRW : Hid (TW R ar ∧ TS ar ∧ ar.pn ≤ ar.pc ∧ ar.sn ≤ ar.sc) := ⟨hOT.w, hOT.s, hOT.cp, hOT.cs⟩
  clear hq hb3 hbV hOT HB2
  cases q
  · have hsn : ar.sn = 0 := by
      rcases HQ.out with ⟨_, h, _⟩ | ⟨_, _, h⟩
      · rw [← HRW.out.1.sl, h]; rfl
      · cases h
    have c18 : ((w3.alloc (.cells #[.int .i64 0, .int .i64 0, .int .i64 0, .int .i64 0, .int .i64 0, .int .i64 0, .int .i64 0, .int .i64 0, .int .i64 0, .int .i64 0, .int .i64 0, .int .i64 0, .int .i64 0, .int .i64 0, .int .i64 0, .slice none 0 0, .slice none 0 0, .slice none 0 0, .slice none 0 0] 33)).setRow w3.heap.size (tbA R ar)).cell? ⟨w3.heap.size, 18, none⟩ = some (.slice ar.sa ar.sn ar.sc) := TBx.cell (HX3.out _ (Below.refl _ _)) 18 rfl
    rw [hsn] at c18
    have HBE : Hid (Below w.heap.size w ((w3.alloc (.cells #[.int .i64 0, .int .i64 0, .int .i64 0, .int .i64 0, .int .i64 0, .int .i64 0, .int .i64 0, .int .i64 0, .int .i64 0, .int .i64 0, .int .i64 0, .int .i64 0, .int .i64 0, .int .i64 0, .int .i64 0, .slice none 0 0, .slice none 0 0, .slice none 0 0, .slice none 0 0] 33)).setRow w3.heap.size (tbA R ar))) := HB1.out.trans (HB3.out.mono HB1.out.size)
    clear HQ HX HX3 HTM HTMR HRW HTE HB1 HB3 hsn
    go_wp2_with (first | (refine wpList_store_row rfl 33 (.tmp 8) (.tmp 34) rfl w3.heap.size (tbA R ar) rfl rfl 33 (#[.int .i64 0, .int .i64 0, .int .i64 0, .int .i64 0, .int .i64 0, .int .i64 0, .int .i64 0, .int .i64 0, .int .i64 0, .int .i64 0, .int .i64 0, .int .i64 0, .int .i64 0, .int .i64 0, .int .i64 0, .slice none 0 0, .slice none 0 0, .slice none 0 0, .slice none 0 0]) HNR3.out (by kernel_rfl) rfl (by simp [Value.oneCell']) ?_) | fail)
    go_ret
    exact ⟨rfl, HBE.out⟩
  go_wp2_with (first | (refine wpList_store_row rfl 33 (.tmp 8) (.tmp 34) rfl w3.heap.size (tbA R ar) rfl rfl 33 (#[.int .i64 0, .int .i64 0, .int .i64 0, .int .i64 0, .int .i64 0, .int .i64 0, .int .i64 0, .int .i64 0, .int .i64 0, .int .i64 0, .int .i64 0, .int .i64 0, .int .i64 0, .int .i64 0, .int .i64 0, .slice none 0 0, .slice none 0 0, .slice none 0 0, .slice none 0 0]) HNR3.out (by kernel_rfl) rfl (by simp [Value.oneCell']) ?_) | (refine wpList_load_row rfl 33 (.tmp 8) rfl w3.heap.size rfl 33 (tbA R ar) (0, 0) _ (HX3.out _ (Below.refl _ _)) Tryz.underlying33 rfl (by kernel_rfl) ?_) | fail)
  clear HNR3
  revert HB3 HX3 HTMR
  generalize ((w3.alloc (.cells #[.int .i64 0, .int .i64 0, .int .i64 0, .int .i64 0, .int .i64 0, .int .i64 0, .int .i64 0, .int .i64 0, .int .i64 0, .int .i64 0, .int .i64 0, .int .i64 0, .int .i64 0, .int .i64 0, .int .i64 0, .slice none 0 0, .slice none 0 0, .slice none 0 0, .slice none 0 0] 33)).setRow w3.heap.size (tbA R ar)) = U3
  generalize w3.heap.size = N3
  intro HB3 HX3 HTMR
  refine Calls.mono (impl_merge R ar x U3 (HTMR.out _ (Below.refl _ _)) HRW.out.1 HRW.out.2.1 (HTE.out U3 (HB1.out.trans (HB3.out.mono HB1.out.size))) HRW.out.2.2.1 HRW.out.2.2.2) ?_
  rintro e w4 ⟨R2, ar2, q2, rfl, hq2, hb4, hOT⟩
  have HTW2 : Hid (TW R2 ar2 ∧ TS ar2) := ⟨hOT.w, hOT.s⟩
  obtain ⟨rfl, k, lv, rfl, hY⟩ := spy HQ.out rfl hq2 HDW.out.w HRW.out.1
  have HY : Hid (SpY t R R2 ad ar k lv) := hY
  clear hY HQ hq2
  have HNR4 : Hid ((w4.alloc (.cells #[.int .i64 0, .int .i64 0, .int .i64 0, .int .i64 0, .int .i64 0, .int .i64 0, .int .i64 0, .int .i64 0, .int .i64 0, .int .i64 0, .int .i64 0, .int .i64 0, .int .i64 0, .int .i64 0, .int .i64 0, .slice none 0 0, .slice none 0 0, .slice none 0 0, .slice none 0 0] 33)).heap[w4.heap.size]? = some (.cells #[.int .i64 0, .int .i64 0, .int .i64 0, .int .i64 0, .int .i64 0, .int .i64 0, .int .i64 0, .int .i64 0, .int .i64 0, .int .i64 0, .int .i64 0, .int .i64 0, .int .i64 0, .int .i64 0, .int .i64 0, .slice none 0 0, .slice none 0 0, .slice none 0 0, .slice none 0 0] 33 (0, 0))) := new_row w4 _ _ _ rfl
  have hbV : Below w4.heap.size w4 ((w4.alloc (.cells #[.int .i64 0, .int .i64 0, .int .i64 0, .int .i64 0, .int .i64 0, .int .i64 0, .int .i64 0, .int .i64 0, .int .i64 0, .int .i64 0, .int .i64 0, .int .i64 0, .int .i64 0, .int .i64 0, .int .i64 0, .slice none 0 0, .slice none 0 0, .slice none 0 0, .slice none 0 0] 33)).setRow w4.heap.size (tbA R2 ar2)) := below_setRow ((Below.refl _ _).alloc (Nat.le_refl _) _) (Nat.le_refl _) _
  have HB43 : Hid (Below U3.heap.size U3 ((w4.alloc (.cells #[.int .i64 0, .int .i64 0, .int .i64 0, .int .i64 0, .int .i64 0, .int .i64 0, .int .i64 0, .int .i64 0, .int .i64 0, .int .i64 0, .int .i64 0, .int .i64 0, .int .i64 0, .int .i64 0, .int .i64 0, .slice none 0 0, .slice none 0 0, .slice none 0 0, .slice none 0 0] 33)).setRow w4.heap.size (tbA R2 ar2))) := hb4.trans (hbV.mono hb4.size)
  have HB4 : Hid (Below V.heap.size V ((w4.alloc (.cells #[.int .i64 0, .int .i64 0, .int .i64 0, .int .i64 0, .int .i64 0, .int .i64 0, .int .i64 0, .int .i64 0, .int .i64 0, .int .i64 0, .int .i64 0, .int .i64 0, .int .i64 0, .int .i64 0, .int .i64 0, .slice none 0 0, .slice none 0 0, .slice none 0 0, .slice none 0 0] 33)).setRow w4.heap.size (tbA R2 ar2))) := HB3.out.trans (HB43.out.mono HB3.out.size)
  have HX4 : Hid (∀ X, Below ((w4.alloc (.cells #[.int .i64 0, .int .i64 0, .int .i64 0, .int .i64 0, .int .i64 0, .int .i64 0, .int .i64 0, .int .i64 0, .int .i64 0, .int .i64 0, .int .i64 0, .int .i64 0, .int .i64 0, .int .i64 0, .int .i64 0, .slice none 0 0, .slice none 0 0, .slice none 0 0, .slice none 0 0] 33)).setRow w4.heap.size (tbA R2 ar2)).heap.size ((w4.alloc (.cells #[.int .i64 0, .int .i64 0, .int .i64 0, .int .i64 0, .int .i64 0, .int .i64 0, .int .i64 0, .int .i64 0, .int .i64 0, .int .i64 0, .int .i64 0, .int .i64 0, .int .i64 0, .int .i64 0, .int .i64 0, .slice none 0 0, .slice none 0 0, .slice none 0 0, .slice none 0 0] 33)).setRow w4.heap.size (tbA R2 ar2)) X → X.heap[w4.heap.size]? = some (.cells (tbA R2 ar2) 33 (0, 0))) := fun X hX => row_below (setRow_heap _ _ _ _ _ _ HNR4.out) hX
  have HTM2 : Hid (∀ X, Below ((w4.alloc (.cells #[.int .i64 0, .int .i64 0, .int .i64 0, .int .i64 0, .int .i64 0, .int .i64 0, .int .i64 0, .int .i64 0, .int .i64 0, .int .i64 0, .int .i64 0, .int .i64 0, .int .i64 0, .int .i64 0, .int .i64 0, .slice none 0 0, .slice none 0 0, .slice none 0 0, .slice none 0 0] 33)).setRow w4.heap.size (tbA R2 ar2)).heap.size ((w4.alloc (.cells #[.int .i64 0, .int .i64 0, .int .i64 0, .int .i64 0, .int .i64 0, .int .i64 0, .int .i64 0, .int .i64 0, .int .i64 0, .int .i64 0, .int .i64 0, .int .i64 0, .int .i64 0, .int .i64 0, .int .i64 0, .slice none 0 0, .slice none 0 0, .slice none 0 0, .slice none 0 0] 33)).setRow w4.heap.size (tbA R2 ar2)) X → TM 0 X R2 ar2) := fun X hX => hOT.m.below (hbV.trans (hX.mono hbV.size))
  have HXR : Hid (∀ X, Below ((w4.alloc (.cells #[.int .i64 0, .int .i64 0, .int .i64 0, .int .i64 0, .int .i64 0, .int .i64 0, .int .i64 0, .int .i64 0, .int .i64 0, .int .i64 0, .int .i64 0, .int .i64 0, .int .i64 0, .int .i64 0, .int .i64 0, .slice none 0 0, .slice none 0 0, .slice none 0 0, .slice none 0 0] 33)).setRow w4.heap.size (tbA R2 ar2)).heap.size ((w4.alloc (.cells #[.int .i64 0, .int .i64 0, .int .i64 0, .int .i64 0, .int .i64 0, .int .i64 0, .int .i64 0, .int .i64 0, .int .i64 0, .int .i64 0, .int .i64 0, .int .i64 0, .int .i64 0, .int .i64 0, .int .i64 0, .slice none 0 0, .slice none 0 0, .slice none 0 0, .slice none 0 0] 33)).setRow w4.heap.size (tbA R2 ar2)) X → X.heap[N3]? = some (.cells (tbA R ar) 33 (0, 0))) := fun X hX => HX3.out X (HB43.out.trans (hX.mono HB43.out.size))
  have HXT : Hid (∀ X, Below ((w4.alloc (.cells #[.int .i64 0, .int .i64 0, .int .i64 0, .int .i64 0, .int .i64 0, .int .i64 0, .int .i64 0, .int .i64 0, .int .i64 0, .int .i64 0, .int .i64 0, .int .i64 0, .int .i64 0, .int .i64 0, .int .i64 0, .slice none 0 0, .slice none 0 0, .slice none 0 0, .slice none 0 0] 33)).setRow w4.heap.size (tbA R2 ar2)).heap.size ((w4.alloc (.cells #[.int .i64 0, .int .i64 0, .int .i64 0, .int .i64 0, .int .i64 0, .int .i64 0, .int .i64 0, .int .i64 0, .int .i64 0, .int .i64 0, .int .i64 0, .int .i64 0, .int .i64 0, .int .i64 0, .int .i64 0, .slice none 0 0, .slice none 0 0, .slice none 0 0, .slice none 0 0] 33)).setRow w4.heap.size (tbA R2 ar2)) X → X.heap[N]? = some (.cells (tbA t ad) 33 (0, 0))) := fun X hX => HX.out X (HB4.out.trans (hX.mono HB4.out.size))
  have HMR : Hid (∀ X, Below ((w4.alloc (.cells #[.int .i64 0, .int .i64 0, .int .i64 0, .int .i64 0, .int .i64 0, .int .i64 0, .int .i64 0, .int .i64 0, .int .i64 0, .int .i64 0, .int .i64 0, .int .i64 0, .int .i64 0, .int .i64 0, .int .i64 0, .slice none 0 0, .slice none 0 0, .slice none 0 0, .slice none 0 0] 33)).setRow w4.heap.size (tbA R2 ar2)).heap.size ((w4.alloc (.cells #[.int .i64 0, .int .i64 0, .int .i64 0, .int .i64 0, .int .i64 0, .int .i64 0, .int .i64 0, .int .i64 0, .int .i64 0, .int .i64 0, .int .i64 0, .int .i64 0, .int .i64 0, .int .i64 0, .int .i64 0, .slice none 0 0, .slice none 0 0, .slice none 0 0, .slice none 0 0] 33)).setRow w4.heap.size (tbA R2 ar2)) X → TM 0 X R ar) := fun X hX => HTMR.out X (HB43.out.trans (hX.mono HB43.out.size))
  have HMT : Hid (∀ X, Below ((w4.alloc (.cells #[.int .i64 0, .int .i64 0, .int .i64 0, .int .i64 0, .int .i64 0, .int .i64 0, .int .i64 0, .int .i64 0, .int .i64 0, .int .i64 0, .int .i64 0, .int .i64 0, .int .i64 0, .int .i64 0, .int .i64 0, .slice none 0 0, .slice none 0 0, .slice none 0 0, .slice none 0 0] 33)).setRow w4.heap.size (tbA R2 ar2)).heap.size ((w4.alloc (.cells #[.int .i64 0, .int .i64 0, .int .i64 0, .int .i64 0, .int .i64 0, .int .i64 0, .int .i64 0, .int .i64 0, .int .i64 0, .int .i64 0, .int .i64 0, .int .i64 0, .int .i64 0, .int .i64 0, .int .i64 0, .slice none 0 0, .slice none 0 0, .slice none 0 0, .slice none 0 0] 33)).setRow w4.heap.size (tbA R2 ar2)) X → TM 0 X t ad) := fun X hX => HTM.out X (HB4.out.trans (hX.mono HB4.out.size))
  have HBW : Hid (Below w.heap.size w ((w4.alloc (.cells #[.int .i64 0, .int .i64 0, .int .i64 0, .int .i64 0, .int .i64 0, .int .i64 0, .int .i64 0, .int .i64 0, .int .i64 0, .int .i64 0, .int .i64 0, .int .i64 0, .int .i64 0, .int .i64 0, .int .i64 0, .slice none 0 0, .slice none 0 0, .slice none 0 0, .slice none 0 0] 33)).setRow w4.heap.size (tbA R2 ar2))) := HB1.out.trans (HB4.out.mono HB1.out.size)
  have HE4 : Hid (∀ X, Below ((w4.alloc (.cells #[.int .i64 0, .int .i64 0, .int .i64 0, .int .i64 0, .int .i64 0, .int .i64 0, .int .i64 0, .int .i64 0, .int .i64 0, .int .i64 0, .int .i64 0, .int .i64 0, .int .i64 0, .int .i64 0, .int .i64 0, .slice none 0 0, .slice none 0 0, .slice none 0 0, .slice none 0 0] 33)).setRow w4.heap.size (tbA R2 ar2)).heap.size ((w4.alloc (.cells #[.int .i64 0, .int .i64 0, .int .i64 0, .int .i64 0, .int .i64 0, .int .i64 0, .int .i64 0, .int .i64 0, .int .i64 0, .int .i64 0, .int .i64 0, .int .i64 0, .int .i64 0, .int .i64 0, .int .i64 0, .slice none 0 0, .slice none 0 0, .slice none 0 0, .slice none 0 0] 33)).setRow w4.heap.size (tbA R2 ar2)) X → TabE X) := fun X hX => HTE.out X (HBW.out.trans (hX.mono HBW.out.size))
  clear hb4 hbV hOT HB43 HB4 HB3 HX HX3 HTM HTMR HTE HB1
  go_wp2_with (first | (refine wpList_store_row rfl 33 (.tmp 10) (.tmp 49) rfl w4.heap.size (tbA R2 ar2) rfl rfl 33 (#[.int .i64 0, .int .i64 0, .int .i64 0, .int .i64 0, .int .i64 0, .int .i64 0, .int .i64 0, .int .i64 0, .int .i64 0, .int .i64 0, .int .i64 0, .int .i64 0, .int .i64 0, .int .i64 0, .int .i64 0, .slice none 0 0, .slice none 0 0, .slice none 0 0, .slice none 0 0]) HNR4.out (by kernel_rfl) rfl (by simp [Value.oneCell']) ?_) | (refine wpList_load_row_w (by rfl) 33 (.tmp 10) rfl w4.heap.size rfl 33 (tbA R2 ar2) (0, 0) _ (HX4.out _ (Below.refl _ _)) Tryz.underlying33 rfl (by kernel_rfl) ?_) | (refine wpList_load_row_w (by rfl) 33 (.tmp 3) rfl N rfl 33 (tbA t ad) (0, 0) _ (HXT.out _ (Below.refl _ _)) Tryz.underlying33 rfl (by kernel_rfl) ?_) | fail)
  clear HNR4
  revert HX4 HTM2 HXR HXT HMR HMT HBW HE4
  generalize ((w4.alloc (.cells #[.int .i64 0, .int .i64 0, .int .i64 0, .int .i64 0, .int .i64 0, .int .i64 0, .int .i64 0, .int .i64 0, .int .i64 0, .int .i64 0, .int .i64 0, .int .i64 0, .int .i64 0, .int .i64 0, .int .i64 0, .slice none 0 0, .slice none 0 0, .slice none 0 0, .slice none 0 0] 33)).setRow w4.heap.size (tbA R2 ar2)) = U4
  generalize w4.heap.size = N4
  intro HX4 HTM2 HXR HXT HMR HMT HBW HE4
  obtain rfl := HY.out.eq
  refine Calls.mono (same_tables R2 ar2 ad U4 (HTM2.out _ (Below.refl _ _)) (HMT.out _ (Below.refl _ _)) HTW2.out.1 HDW.out.w HTW2.out.2 HDW.out.s) ?_
  rintro e w5 ⟨rfl, hb5⟩
  have HB5 : Hid (Below U4.heap.size U4 w5) := hb5
  clear hb5 HTW2 HTM2 HX4
  go_wp2_with (first | (refine wpList_load_row_w (by rfl) 33 (.tmp 8) rfl N3 rfl 33 (tbA R ar) (0, 0) _ (HXR.out _ HB5.out) Tryz.underlying33 rfl (by kernel_rfl) ?_) | fail)
  refine Calls.mono (impl_sound R ar true w5 (HMR.out _ HB5.out) HRW.out.1 HRW.out.2.1 (HE4.out _ HB5.out) HRW.out.2.2.1 ⟨fun _ => HY.out.sr, fun _ => rfl⟩) ?_
  rintro e w6 ⟨rfl, hb6⟩
  have HB6 : Hid (Below U4.heap.size U4 w6) := HB5.out.trans (hb6.mono HB5.out.size)
  have hsn : ad.sn ≤ 1048576 := HDW.out.s.s
  have hpn : ad.pn ≤ 1048576 := HDW.out.s.p
  have cR : w6.cell? ⟨N3, 18, none⟩ = some (.slice ar.sa (ad.sn + 1) ar.sc) := by rw [← HY.out.n]; exact TBx.cell (HXR.out _ HB6.out) 18 rfl
  have cT : w6.cell? ⟨N, 18, none⟩ = some (.slice ad.sa ad.sn ad.sc) := TBx.cell (HXT.out _ HB6.out) 18 rfl
  have hwr : IntKind.i64.wrap ((ad.sn : Int) + 1) = (ad.sn : Int) + 1 := by rw [IntKind.wrap_i64]; omega
  clear hb6 HB5
  go_wp2
  clear cR cT hwr
  go_loopw [12, 13] (fun vi vl wr => ∃ p : Nat, p ≤ ad.pn ∧ vi = .int .i64 p ∧ Hid (Below U4.heap.size U4 wr)) (fun vi _ _ => ad.pn - (intOf vi).toNat)
  case atStart => exact ⟨0, by omega, rfl, HB6.out⟩
  case round =>
    clear HB6
    obtain ⟨p, hp, rfl, HB⟩ := hrel
    have k15 : wr.cell? ⟨N, 15, none⟩ = some (.slice ad.pa ad.pn ad.pc) := TBx.cell (HXT.out _ HB.out) 15 rfl
    have HXX : Hid (∀ X, (∃ x : Gr wr, X = x.w) → X.heap[N]? = some (.cells (tbA R2 ad) 33 (0, 0))) := fun X ⟨x, hx⟩ => by rw [hx]; exact HXT.out _ (HB.out.trans (x.h.mono HB.out.size))
    have HXO : Hid (∀ X, (∃ x : Gr wr, X = x.w) → X.heap[N3]? = some (.cells (tbA R ar) 33 (0, 0))) := fun X ⟨x, hx⟩ => by rw [hx]; exact HXR.out _ (HB.out.trans (x.h.mono HB.out.size))
    have HG1 : Hid (GG wr R ar) := ⟨HY.out.sr, fun X hX => ⟨HMR.out _ (HB.out.trans (hX.mono HB.out.size)), HE4.out _ (HB.out.trans (hX.mono HB.out.size))⟩, HRW.out.1, HRW.out.2.1, HRW.out.2.2.1⟩
    have HG2 : Hid (GG wr R2 ad) := ⟨HY.out.sd, fun X hX => ⟨HMT.out _ (HB.out.trans (hX.mono HB.out.size)), HE4.out _ (HB.out.trans (hX.mono HB.out.size))⟩, HDW.out.w, HDW.out.s, HDW.out.c1⟩
    by_cases hlt : p < ad.pn
    rotate_left
    · obtain rfl : p = ad.pn := by omega
      have hnl : ¬ ((ad.pn : Int) < (ad.pn : Int)) := by omega
      obtain ⟨G, HG, hgf⟩ := gap_fun wr
      have HG : Hid _ := HG
      have HGE : Hid (G R = G R2) := by show _ = _; rw [hgf, hgf, HY.out.m, HY.out.g]
      clear hgf
      go_wp2
      clear k15
      have hgr := gr_some wr
      try simp only [Act.put]
      refine region_alike (by kernel_rfl) (by kernel_rfl) ?_
      repeat (first | (refine wpQuiet_load_row rfl 33 (.tmp 3) rfl N rfl 33 (tbA R2 ad) (0, 0) _ HXX.out Tryz.underlying33 rfl (by kernel_rfl) ?_; simp only [Act.put, List.setIfInBounds_toArray, List.set_cons_zero, List.set_cons_succ]) | (refine wpQuiet_load_row rfl 33 (.tmp 8) rfl N3 rfl 33 (tbA R ar) (0, 0) _ HXO.out Tryz.underlying33 rfl (by kernel_rfl) ?_; simp only [Act.put, List.setIfInBounds_toArray, List.set_cons_zero, List.set_cons_succ]) | go_big_quiet_step (first | (go_at_call 15; refine gr_call (HG.out _ _ ?_ _); first | exact HG1.out | exact HG2.out)))
      refine wpQuiet_nil ?_
      intro _ hw'
      obtain ⟨X1, rfl⟩ := hw'
      have HBX : Hid (Below w.heap.size w X1.w) := HBW.out.trans ((HB.out.trans (X1.h.mono HB.out.size)).mono HBW.out.size)
      generalize X1.w = w8 at HBX ⊢
      clear hgr HG HXX HXO
      try rw [HGE.out]
      go_wp2
      go_ret
      first | exact ⟨rfl, HBX.out⟩ | exact ⟨by simp, HBX.out⟩
    have hlt' : (p : Int) < (ad.pn : Int) := by omega
    have hks : k < ad.sn := HY.out.kb
    have hks' : (k : Int) < (ad.sn : Int) := by omega
    have c18 : wr.cell? ⟨N, 18, none⟩ = some (.slice ad.sa ad.sn ad.sc) := TBx.cell (HXT.out _ HB.out) 18 rfl
    have c12 : wr.cell? ⟨N, 12, none⟩ = some (.int .i64 R2.pad) := TBx.cell (HXT.out _ HB.out) 12 rfl
    have c13 : wr.cell? ⟨N, 13, none⟩ = some (.int .i64 R2.grd) := TBx.cell (HXT.out _ HB.out) 13 rfl
    obtain ⟨b1, o1, hsa, hbl1, p1⟩ := (HMT.out _ HB.out).s.seg.at k hks
    rw [hsa] at c18
    have hsh := HY.out.sh (p : Int)
    simp only [slX] at p1
    generalize R2.ss.getD k sl0 = y at p1 hsh
    obtain ⟨c0, -, -⟩ := sl_cells p1
    obtain ⟨x1, x2, x3⟩ := y
    simp only at c0 hsh
    have HSH : Hid (shareN R (p : Int) R.ss.length = shareN R2 (p : Int) R2.ss.length - (if x1 = (p : Int) then lv else 0)) := hsh
    have hlv := HY.out.lw
    clear p1 hbl1 hsh hsa
    obtain ⟨S, HS, hsf⟩ := share_fun wr (p : Int)
    have HS : Hid _ := HS
    have HSB : Hid (0 ≤ S R2 ∧ S R2 ≤ 1000000) := by show _ ∧ _; rw [hsf]; exact share_small HY.out.sd _
    have HLB : Hid (0 ≤ lv ∧ lv ≤ 10000) := HY.out.lvb
    have HSH : Hid (S R = S R2 - (if x1 = (p : Int) then lv else 0)) := by show _ = _; rw [hsf, hsf]; exact HSH.out
    clear hsf
    obtain ⟨u, HU⟩ : ∃ u, Hid (S R2 = u) := ⟨_, rfl⟩
    rw [HU.out] at HSH HSB
    by_cases hx : (p : Int) = x1
    · subst hx
      have HV : Hid (S R = u - lv) := by have := HSH.out; rw [if_pos rfl] at this; exact this
      clear HSH
      have hwu : IntKind.i64.wrap (u - lv) = u - lv := by have := HSB.out; have := HLB.out; rw [IntKind.wrap_i64]; omega
      have hw64 : wrap64 (u - lv) = u - lv := by have := HSB.out; have := HLB.out; unfold wrap64; omega
      go_wp2
      clear k15 c18 c12 c13 c0 hlv
      have hgr := gr_some wr
      try simp only [Act.put]
      refine region_alike (by kernel_rfl) (by kernel_rfl) ?_
      repeat (first | (refine wpQuiet_load_row rfl 33 (.tmp 3) rfl N rfl 33 (tbA R2 ad) (0, 0) _ HXX.out Tryz.underlying33 rfl (by kernel_rfl) ?_; simp only [Act.put, List.setIfInBounds_toArray, List.set_cons_zero, List.set_cons_succ]) | (refine wpQuiet_load_row rfl 33 (.tmp 8) rfl N3 rfl 33 (tbA R ar) (0, 0) _ HXO.out Tryz.underlying33 rfl (by kernel_rfl) ?_; simp only [Act.put, List.setIfInBounds_toArray, List.set_cons_zero, List.set_cons_succ]) | go_big_quiet_step (first | (go_at_call 14; refine gr_call (HS.out _ _ ?_ _); first | exact HG1.out | exact HG2.out)))
      refine wpQuiet_nil ?_
      intro _ hw'
      obtain ⟨X1, rfl⟩ := hw'
      have HBX : Hid (Below U4.heap.size U4 X1.w) := HB.out.trans (X1.h.mono HB.out.size)
      generalize X1.w = w8 at HBX ⊢
      clear hgr HS HXX HXO
      try rw [HV.out]
      try rw [HU.out]
      try rw [hwu]
      try rw [hw64]
      try simp only [bne_self_eq_false]
      go_wp2
      go_roundw
      case rel => exact ⟨p + 1, by omega, by first | rfl | go_num, HBX.out⟩
      case measure => simp [intOf]; omega
    · have HV : Hid (S R = u) := by have := HSH.out; rw [if_neg (fun h => hx h.symm)] at this; show _ = _; omega
      clear HSH
      have hwu : IntKind.i64.wrap (u - 0) = u := by have := HSB.out; rw [IntKind.wrap_i64]; omega
      have hw64 : wrap64 u = u := by have := HSB.out; unfold wrap64; omega
      have hxb : ((p : Int) == x1) = false := beq_eq_false_iff_ne.2 hx
      go_wp2
      clear k15 c18 c12 c13 c0 hlv
      have hgr := gr_some wr
      try simp only [Act.put]
      refine region_alike (by kernel_rfl) (by kernel_rfl) ?_
      repeat (first | (refine wpQuiet_load_row rfl 33 (.tmp 3) rfl N rfl 33 (tbA R2 ad) (0, 0) _ HXX.out Tryz.underlying33 rfl (by kernel_rfl) ?_; simp only [Act.put, List.setIfInBounds_toArray, List.set_cons_zero, List.set_cons_succ]) | (refine wpQuiet_load_row rfl 33 (.tmp 8) rfl N3 rfl 33 (tbA R ar) (0, 0) _ HXO.out Tryz.underlying33 rfl (by kernel_rfl) ?_; simp only [Act.put, List.setIfInBounds_toArray, List.set_cons_zero, List.set_cons_succ]) | go_big_quiet_step (first | (go_at_call 14; refine gr_call (HS.out _ _ ?_ _); first | exact HG1.out | exact HG2.out)))
      refine wpQuiet_nil ?_
      intro _ hw'
      obtain ⟨X1, rfl⟩ := hw'
      have HBX : Hid (Below U4.heap.size U4 X1.w) := HB.out.trans (X1.h.mono HB.out.size)
      generalize X1.w = w8 at HBX ⊢
      clear hgr HS HXX HXO
      try rw [HV.out]
      try rw [HU.out]
      try rw [hwu]
      try rw [hw64]
      try simp only [bne_self_eq_false]
      go_wp2
      go_roundw
      case rel => exact ⟨p + 1, by omega, by first | rfl | go_num, HBX.out⟩
      case measure => simp [intOf]; omega
end Go.Proofs.YtlomcdgfcocmmaaGreatDoor
namespace Go.Proofs.YtlomcdgfcocmmaaGreatDoor
open Go.ChangeShapes Go.WideShapes Go.ChangeAt Go.RowKit Go.Deep Go.Joins
set_option linter.unusedVariables false
/-- A partition's slots carried over from one table to another. -/
structure Car (t u : Tb) (q : Int) (φ : Nat → Nat) : Prop where
  to : ∀ i, La.Ows t q i → La.Ows u q (φ i) ∧ La.fF u (φ i) = La.fF t i ∧ La.eE u (φ i) = La.eE t i
  fr : ∀ j, La.Ows u q j → ∃ i, La.Ows t q i ∧ j = φ i
  lt : ∀ i j, La.Ows t q i → La.Ows t q j → (i < j ↔ φ i < φ j)
  mj : u.maj = t.maj
theorem Car.gp {t u : Tb} {q : Int} {φ : Nat → Nat} (h : Car t u q φ) {i : Nat} (ho : La.Ows t q i) (g : Int) : La.GP t q i g ↔ La.GP u q (φ i) g := by
  constructor
  · rintro (⟨k, a1, a2, a3, a4⟩ | ⟨a1, k, a2, a3, a4⟩)
    · exact .inl ⟨φ k, (h.lt i k ho a2).1 a1, (h.to k a2).1, fun j hj1 hj2 ho' => by
        obtain ⟨m, hm, rfl⟩ := h.fr j ho'
        exact a3 m ((h.lt i m ho hm).2 hj1) ((h.lt m k hm a2).2 hj2) hm, by rw [(h.to k a2).2.1, (h.to i ho).2.2]; exact a4⟩
    · exact .inr ⟨fun j hj ho' => by
        obtain ⟨m, hm, rfl⟩ := h.fr j ho'
        exact a1 m ((h.lt i m ho hm).2 hj) hm, φ k, (h.to k a2).1, fun j hj ho' => by
        obtain ⟨m, hm, rfl⟩ := h.fr j ho'
        exact a3 m ((h.lt m k hm a2).2 hj) hm, by rw [(h.to k a2).2.1, (h.to i ho).2.2, h.mj]; exact a4⟩
  · rintro (⟨k', a1, a2, a3, a4⟩ | ⟨a1, k', a2, a3, a4⟩)
    · obtain ⟨k, hk, rfl⟩ := h.fr k' a2
      rw [(h.to k hk).2.1, (h.to i ho).2.2] at a4
      exact .inl ⟨k, (h.lt i k ho hk).2 a1, hk, fun j hj1 hj2 ho' => a3 (φ j) ((h.lt i j ho ho').1 hj1) ((h.lt j k ho' hk).1 hj2) (h.to j ho').1, a4⟩
    · obtain ⟨k, hk, rfl⟩ := h.fr k' a2
      rw [(h.to k hk).2.1, (h.to i ho).2.2, h.mj] at a4
      exact .inr ⟨fun j hj ho' => a1 (φ j) ((h.lt i j ho ho').1 hj) (h.to j ho').1, k, hk, fun j hj ho' => a3 (φ j) ((h.lt j k ho' hk).1 hj) (h.to j ho').1, a4⟩
theorem Car.ln {t u : Tb} {q : Int} {φ : Nat → Nat} (h : Car t u q φ) (r : Int) : La.LN t q t.ss.length r ↔ La.LN u q u.ss.length r := by
  constructor
  · rintro (⟨a1, a2⟩ | ⟨⟨i, a1, a2, a3⟩, a4⟩)
    · exact .inl ⟨fun j hj ho => by
        obtain ⟨m, hm, rfl⟩ := h.fr j ho
        exact a1 m hm.1 hm, a2⟩
    · exact .inr ⟨⟨φ i, (h.to i a2).1.1, (h.to i a2).1, (h.gp a2 r).1 a3⟩, fun j g hj ho hg => by
        obtain ⟨m, hm, rfl⟩ := h.fr j ho
        exact a4 m g hm.1 hm ((h.gp hm g).2 hg)⟩
  · rintro (⟨a1, a2⟩ | ⟨⟨i, a1, a2, a3⟩, a4⟩)
    · exact .inl ⟨fun j hj ho => a1 (φ j) (h.to j ho).1.1 (h.to j ho).1, a2⟩
    · obtain ⟨m, hm, rfl⟩ := h.fr i a2
      exact .inr ⟨⟨m, hm.1, hm, (h.gp hm r).2 a3⟩, fun j g hj ho hg => a4 (φ j) g (h.to j ho).1.1 (h.to j ho).1 ((h.gp ho g).1 hg)⟩
theorem split_car {t : Tb} {k : Nat} {f q : Int} (hk : k < t.ss.length) (hq : (t.ss.getD k sl0).1 ≠ q) : Car t { t with ss := splL t.ss k f } q (fun i => if i < k then i else i + 1) := by
  have hl := splL_len (f := f) hk
  have hne : ∀ i, La.Ows t q i → i ≠ k := fun i h e => hq (by rw [← e]; exact h.2)
  have hg : ∀ i, i ≠ k → (splL t.ss k f).getD (if i < k then i else i + 1) sl0 = t.ss.getD i sl0 := fun i hi => by
    rw [splL_get hk]
    by_cases c : i < k
    · rw [if_pos c, if_pos c]
    · rw [if_neg c, if_neg (show ¬ i + 1 < k by omega), if_neg (show ¬ i + 1 = k by omega), if_neg (show ¬ i + 1 = k + 1 by omega), Nat.add_sub_cancel]
  refine ⟨fun i h => ?_, fun j h => ?_, fun i j hi hj => ?_, rfl⟩
  · have e := hg i (hne i h)
    refine ⟨⟨?_, ?_⟩, ?_, ?_⟩
    · show (if i < k then i else i + 1) < (splL t.ss k f).length
      have := h.1
      rw [hl]; split <;> omega
    · show ((splL t.ss k f).getD (if i < k then i else i + 1) sl0).1 = q
      rw [e]; exact h.2
    · show ((splL t.ss k f).getD (if i < k then i else i + 1) sl0).2.1 + t.pad = _
      rw [e]; rfl
    · show ((splL t.ss k f).getD (if i < k then i else i + 1) sl0).2.1 + ((splL t.ss k f).getD (if i < k then i else i + 1) sl0).2.2 - t.grd = _
      rw [e]; rfl
  · obtain ⟨h1, h2⟩ := h
    have h1' : j < (splL t.ss k f).length := h1
    have h2' : ((splL t.ss k f).getD j sl0).1 = q := h2
    rw [hl] at h1'
    rw [splL_get hk] at h2'
    by_cases c : j < k
    · rw [if_pos c] at h2'
      exact ⟨j, ⟨by omega, h2'⟩, (if_pos c).symm⟩
    rw [if_neg c] at h2'
    by_cases c2 : j = k
    · rw [if_pos c2] at h2'; exact absurd h2' hq
    rw [if_neg c2] at h2'
    by_cases c3 : j = k + 1
    · rw [if_pos c3] at h2'; exact absurd h2' hq
    rw [if_neg c3] at h2'
    refine ⟨j - 1, ⟨by omega, h2'⟩, ?_⟩
    show j = if j - 1 < k then j - 1 else j - 1 + 1
    rw [if_neg (by omega)]; omega
  · have h1 := hne i hi
    have h2 := hne j hj
    show i < j ↔ (if i < k then i else i + 1) < (if j < k then j else j + 1)
    by_cases c1 : i < k <;> by_cases c2 : j < k <;> simp only [c1, c2, if_true, if_false] <;> omega
/-- What n looks make of the slots. -/
structure EvN (t : Tb) (p : Int) (ss : List slT) : Prop where
  n : t.ss.length ≤ ss.length
  g : lenN ss ss.length = lenN t.ss t.ss.length
  sp : shareN { t with ss := ss } p ss.length = shareN t p t.ss.length - ((ss.length : Int) - (t.ss.length : Int)) * (t.pad + t.grd)
  sq : ∀ q, q ≠ p → shareN { t with ss := ss } q ss.length = shareN t q t.ss.length
  l : ∀ q, q ≠ p → ∀ r, La.LN t q t.ss.length r ↔ La.LN { t with ss := ss } q ss.length r
theorem EvN.step {t : Tb} {p : Int} {ss : List slT} (h : EvN t p ss) {k : Nat} {f : Int} (hk : k < ss.length) (hp : (ss.getD k sl0).1 = p) : EvN t p (splL ss k f) := by
  have hl := splL_len (f := f) hk
  have hsh : ∀ x, shareN { t with ss := splL ss k f } x (ss.length + 1) = shareN { t with ss := ss } x ss.length - (if (ss.getD k sl0).1 = x then t.pad + t.grd else 0) := fun x => split_share (t := { t with ss := ss }) hk
  refine ⟨by rw [hl]; have := h.n; omega, ?_, ?_, fun q hq => ?_, fun q hq r => ?_⟩
  · rw [hl, split_len hk]; exact h.g
  · rw [hl, hsh, h.sp, if_pos hp]
    have e : (((ss.length + 1 : Nat) : Int) - (t.ss.length : Int)) = ((ss.length : Int) - (t.ss.length : Int)) + 1 := by omega
    rw [e, Int.add_mul, Int.one_mul]
    omega
  · rw [hl, hsh, h.sq q hq, if_neg (fun e => hq (e.symm.trans hp))]
    omega
  · exact (h.l q hq r).trans ((split_car (t := { t with ss := ss }) hk (fun e => hq (e.symm.trans hp))).ln r)
theorem evn {t : Tb} {p f : Int} : ∀ n, EvN t p (evF t p f n)
  | 0 => ⟨Nat.le_refl _, rfl, by
      show shareN t p t.ss.length = shareN t p t.ss.length - ((t.ss.length : Int) - (t.ss.length : Int)) * (t.pad + t.grd)
      rw [Int.sub_self, Int.zero_mul, Int.sub_zero], fun _ _ => rfl, fun _ _ _ => Iff.rfl⟩
  | n + 1 => by
    have ih := evn (t := t) (p := p) (f := f) n
    by_cases c : ((evF t p f n).getD n sl0).1 = p ∧ CutP t (evF t p f n) n f
    · rw [evF_yes c.1 c.2]
      exact ih.step c.2.1 c.1
    · rw [evF_no c]
      exact ih
end Go.Proofs.YtlomcdgfcocmmaaGreatDoor
namespace Go.Proofs.YtlomcdgfcocmmaaGreatDoor
open Go.ChangeShapes Go.WideShapes Go.ChangeAt Go.RowKit Go.Deep Go.Joins
set_option linter.unusedVariables false

theorem sound_gg {W : World} {T : Tb} {A : Ad} (h : GG W T A) (x : Gr W) : Calls Tryz.prog 13 #[tbV T A] x.w fun e w' => e = .returned (.bool true) ∧ Below x.w.heap.size x.w w' :=
  impl_sound T A true x.w (h.m _ x.h).1 h.w h.s (h.m _ x.h).2 h.c ⟨fun _ => h.d, fun _ => rfl⟩
theorem share_gg {W : World} {T : Tb} {A : Ad} {p v : Int} (h : GG W T A ∧ shareN T p T.ss.length = v) (x : Gr W) : Calls Tryz.prog 14 #[tbV T A, .int .i64 p] x.w fun e w' => e = .returned (.int .i64 v) ∧ Below x.w.heap.size x.w w' :=
  (impl_share T A p x.w (h.1.m _ x.h).1 h.1.w h.1.s (h.1.m _ x.h).2 h.1.c).mono fun e w' ⟨⟨r, h1, h2⟩, h3⟩ => by
    rcases h2 with ⟨h2, _⟩ | ⟨_, h2⟩
    · exact absurd h.1.d h2
    · exact ⟨by rw [h1, h2, h.2], h3⟩
theorem gap_gg {W : World} {T : Tb} {A : Ad} {v : Int} (h : GG W T A ∧ T.maj - lenN T.ss T.ss.length = v) (x : Gr W) : Calls Tryz.prog 15 #[tbV T A] x.w fun e w' => e = .returned (.int .i64 v) ∧ Below x.w.heap.size x.w w' :=
  (impl_gap T A x.w (h.1.m _ x.h).1 h.1.w h.1.s (h.1.m _ x.h).2 h.1.c).mono fun e w' ⟨⟨r, h1, h2⟩, h3⟩ => by
    rcases h2 with ⟨h2, _⟩ | ⟨_, h2⟩
    · exact absurd h.1.d h2
    · exact ⟨by rw [h1, h2, h.2], h3⟩
noncomputable def latV (T : Tb) (p : Int) : Int := @Classical.epsilon Int ⟨0⟩ (fun r => La.LN T p T.ss.length r)
theorem lat_gg {W : World} {T : Tb} {A : Ad} {p v : Int} (h : (GG W T A ∧ A.sn ≤ A.sc) ∧ latV T p = v) (x : Gr W) : Calls Tryz.prog 19 #[tbV T A, .int .i64 p] x.w fun e w' => e = .returned (.int .i64 v) ∧ Below x.w.heap.size x.w w' :=
  (impl_lat T A p x.w (h.1.1.m _ x.h).1 h.1.1.w h.1.1.s (h.1.1.m _ x.h).2 h.1.1.c h.1.2).mono fun e w' ⟨⟨r, h1, h2⟩, h3⟩ => by
    rcases h2 with ⟨h2, _⟩ | ⟨_, h2⟩
    · exact absurd h.1.1.d h2
    · have he : La.LN T p T.ss.length (latV T p) := @Classical.epsilon_spec Int (fun r => La.LN T p T.ss.length r) ⟨r, h2⟩
      exact ⟨by rw [h1, ← h.2, La.LN.unique h2 he], h3⟩
theorem lat_fun (W : World) (p : Int) : ∃ L : Tb → Int, (∀ T A, (GG W T A ∧ A.sn ≤ A.sc) → ∀ x : Gr W, Calls Tryz.prog 19 #[tbV T A, .int .i64 p] x.w fun e w' => e = .returned (.int .i64 (L T)) ∧ Below x.w.heap.size x.w w') ∧ ∀ T, L T = latV T p :=
  ⟨fun T => latV T p, fun T A h x => lat_gg ⟨h, rfl⟩ x, fun _ => rfl⟩
theorem lat_eq {T U : Tb} {p : Int} (h : ∀ r, La.LN T p T.ss.length r ↔ La.LN U p U.ss.length r) : latV T p = latV U p := by
  unfold latV
  rw [show (fun r => La.LN T p T.ss.length r) = (fun r => La.LN U p U.ss.length r) from funext fun r => propext (h r)]
/-- What the tables of an evening that was made keep. -/
structure EvY (t R : Tb) (ad ar : Ad) (p m lv mv u u1 : Int) : Prop where
  sd : Sd t
  sr : Sd R
  m0 : 0 ≤ m
  mm : (ar.sn : Int) - (ad.sn : Int) = m
  mb : m ≤ 16
  mj : R.maj - lenN R.ss R.ss.length = t.maj - lenN t.ss t.ss.length
  lw : t.pad + t.grd = lv
  lb : 0 ≤ lv ∧ lv ≤ 10000
  mw : m * lv = mv
  mvb : 0 ≤ mv ∧ mv ≤ 160000
  ue : shareN t p t.ss.length = u
  ub : 0 ≤ u ∧ u ≤ 1000000
  u1e : u - mv = u1
  ur : shareN R p R.ss.length = u1
  sq : ∀ q, q ≠ p → shareN R q R.ss.length = shareN t q t.ss.length
  l : ∀ q, q ≠ p → latV R q = latV t q
theorem evy2 {t : Tb} {ss : List slT} {ad ar : Ad} {p : Int} (hd : Sd t) (e : EvN t p ss) (sr : Sd { t with ss := ss }) (hw : TW t ad) (hr : TW { t with ss := ss } ar) : ∃ m lv mv u u1, EvY t { t with ss := ss } ad ar p m lv mv u u1 := by
  have hl : ss.length = ar.sn := hr.sl
  have hl2 : t.ss.length = ad.sn := hw.sl
  have h4 : 1 ≤ t.pad ∧ t.pad ≤ 5000 := hd 4 (by omega)
  have h5 : 1 ≤ t.grd ∧ t.grd ≤ 5000 := hd 5 (by omega)
  have h16 : ss.length ≤ 16 := (sd_slots sr).2.2.2.1
  have hn := e.n
  have hsp := e.sp
  obtain ⟨lv, hlv⟩ : ∃ lv, t.pad + t.grd = lv := ⟨_, rfl⟩
  obtain ⟨m, hm⟩ : ∃ m, (ar.sn : Int) - (ad.sn : Int) = m := ⟨_, rfl⟩
  have hmv : 0 ≤ m * lv ∧ m * lv ≤ 160000 := by
    have h1 : 0 ≤ m := by omega
    have h2 : m ≤ 16 := by omega
    have h3 : 0 ≤ lv := by omega
    have h4 : lv ≤ 10000 := by omega
    exact ⟨Int.mul_nonneg h1 h3, Int.le_trans (Int.mul_le_mul h2 h4 h3 (by omega)) (by omega)⟩
  have e1 : ((ss.length : Int) - (t.ss.length : Int)) = m := by rw [hl, hl2]; exact hm
  rw [e1, hlv] at hsp
  exact ⟨m, lv, m * lv, shareN t p t.ss.length, shareN t p t.ss.length - m * lv, hd, sr, by omega, hm, by omega, by show t.maj - lenN ss ss.length = _; rw [e.g], hlv, by omega, rfl, hmv, rfl, share_small hd p, rfl, hsp, fun q hq => e.sq q hq, fun q hq => lat_eq fun r => (e.l q hq r).symm⟩
theorem evy {t R : Tb} {ad ar : Ad} {p f : Int} {q : Bool} (h : EvA t p f R q) (hq : q = true) (hw : TW t ad) (hr : TW R ar) : ∃ m lv mv u u1, EvY t R ad ar p m lv mv u u1 := by
  subst hq
  rcases h with ⟨_, _, h⟩ | ⟨⟨hd, _⟩, hR, _⟩
  · cases h
  have e := evn (t := t) (p := p) (f := f) 16
  have sr := evF_sd hd p f 16
  generalize evF t p f 16 = ss at hR e sr
  subst hR
  exact evy2 hd e sr hw hr
set_option maxRecDepth 40000 in
set_option maxHeartbeats 16000000 in
theorem walk_even0 (a : Option Addr) (cap n : Nat) (w : World) (hdr : n ≤ 1048576 → Calls Tryz.prog 16 #[.slice a n cap] w fun e w' => ∃ T A x f, e = .returned (.tuple #[tbV T A, .int .i64 x, .int .i64 f]) ∧ DrP w' T A f ∧ Below w.heap.size w w') (he : TabE w) :
    Calls Tryz.prog 4 #[.slice a n cap] w fun e w' => e = .returned (.bool true) ∧ Below w.heap.size w w' := by
  by_cases hn : n ≤ 1048576
  rotate_left
  · have HY : Hid _ := big_yes a n cap w hn
    clear hdr
    go_enter Tryz.func4, Tryz.ntmps4
    go_wp2_with fail
    refine Calls.mono HY.out ?_
    rintro e w1 ⟨rfl, rfl⟩
    go_wp2
    go_ret
    exact ⟨rfl, Below.refl _ _⟩
  have HNO : Hid _ := big_no a n cap w hn
  have HDR : Hid _ := hdr hn
  have HTE : Hid (∀ X, Below w.heap.size w X → TabE X) := fun X hX => he.below hX
  clear hdr he
  go_enter Tryz.func4, Tryz.ntmps4
  go_wp2_with fail
  refine Calls.mono HNO.out ?_
  rintro e w ⟨rfl, rfl⟩
  go_wp2_with fail
  refine Calls.mono HDR.out ?_
  rintro e w1 ⟨t, ad, x, f, rfl, hD, hb⟩
  have HNR1 : Hid ((w1.alloc (.cells #[.int .i64 0, .int .i64 0, .int .i64 0, .int .i64 0, .int .i64 0, .int .i64 0, .int .i64 0, .int .i64 0, .int .i64 0, .int .i64 0, .int .i64 0, .int .i64 0, .int .i64 0, .int .i64 0, .int .i64 0, .slice none 0 0, .slice none 0 0, .slice none 0 0, .slice none 0 0] 33)).heap[w1.heap.size]? = some (.cells #[.int .i64 0, .int .i64 0, .int .i64 0, .int .i64 0, .int .i64 0, .int .i64 0, .int .i64 0, .int .i64 0, .int .i64 0, .int .i64 0, .int .i64 0, .int .i64 0, .int .i64 0, .int .i64 0, .int .i64 0, .slice none 0 0, .slice none 0 0, .slice none 0 0, .slice none 0 0] 33 (0, 0))) := new_row w1 _ _ _ rfl
  have hbV : Below w1.heap.size w1 ((w1.alloc (.cells #[.int .i64 0, .int .i64 0, .int .i64 0, .int .i64 0, .int .i64 0, .int .i64 0, .int .i64 0, .int .i64 0, .int .i64 0, .int .i64 0, .int .i64 0, .int .i64 0, .int .i64 0, .int .i64 0, .int .i64 0, .slice none 0 0, .slice none 0 0, .slice none 0 0, .slice none 0 0] 33)).setRow w1.heap.size (tbA t ad)) := below_setRow ((Below.refl _ _).alloc (Nat.le_refl _) _) (Nat.le_refl _) _
  have HX : Hid (∀ X, Below ((w1.alloc (.cells #[.int .i64 0, .int .i64 0, .int .i64 0, .int .i64 0, .int .i64 0, .int .i64 0, .int .i64 0, .int .i64 0, .int .i64 0, .int .i64 0, .int .i64 0, .int .i64 0, .int .i64 0, .int .i64 0, .int .i64 0, .slice none 0 0, .slice none 0 0, .slice none 0 0, .slice none 0 0] 33)).setRow w1.heap.size (tbA t ad)).heap.size ((w1.alloc (.cells #[.int .i64 0, .int .i64 0, .int .i64 0, .int .i64 0, .int .i64 0, .int .i64 0, .int .i64 0, .int .i64 0, .int .i64 0, .int .i64 0, .int .i64 0, .int .i64 0, .int .i64 0, .int .i64 0, .int .i64 0, .slice none 0 0, .slice none 0 0, .slice none 0 0, .slice none 0 0] 33)).setRow w1.heap.size (tbA t ad)) X → X.heap[w1.heap.size]? = some (.cells (tbA t ad) 33 (0, 0))) := fun X hX => row_below (setRow_heap _ _ _ _ _ _ HNR1.out) hX
  have HB1 : Hid (Below w.heap.size w ((w1.alloc (.cells #[.int .i64 0, .int .i64 0, .int .i64 0, .int .i64 0, .int .i64 0, .int .i64 0, .int .i64 0, .int .i64 0, .int .i64 0, .int .i64 0, .int .i64 0, .int .i64 0, .int .i64 0, .int .i64 0, .int .i64 0, .slice none 0 0, .slice none 0 0, .slice none 0 0, .slice none 0 0] 33)).setRow w1.heap.size (tbA t ad))) := hb.trans (hbV.mono hb.size)
  have HTM : Hid (∀ X, Below ((w1.alloc (.cells #[.int .i64 0, .int .i64 0, .int .i64 0, .int .i64 0, .int .i64 0, .int .i64 0, .int .i64 0, .int .i64 0, .int .i64 0, .int .i64 0, .int .i64 0, .int .i64 0, .int .i64 0, .int .i64 0, .int .i64 0, .slice none 0 0, .slice none 0 0, .slice none 0 0, .slice none 0 0] 33)).setRow w1.heap.size (tbA t ad)).heap.size ((w1.alloc (.cells #[.int .i64 0, .int .i64 0, .int .i64 0, .int .i64 0, .int .i64 0, .int .i64 0, .int .i64 0, .int .i64 0, .int .i64 0, .int .i64 0, .int .i64 0, .int .i64 0, .int .i64 0, .int .i64 0, .int .i64 0, .slice none 0 0, .slice none 0 0, .slice none 0 0, .slice none 0 0] 33)).setRow w1.heap.size (tbA t ad)) X → TM 0 X t ad) := fun X hX => hD.t.below (hbV.trans (hX.mono hbV.size))
  have HDW : Hid (DrP w1 t ad f) := hD
  clear hb hbV hD HDR HNO
  go_wp2_with (first | (refine wpList_store_row rfl 33 (.tmp 3) (.tmp 17) rfl w1.heap.size (tbA t ad) rfl rfl 33 (#[.int .i64 0, .int .i64 0, .int .i64 0, .int .i64 0, .int .i64 0, .int .i64 0, .int .i64 0, .int .i64 0, .int .i64 0, .int .i64 0, .int .i64 0, .int .i64 0, .int .i64 0, .int .i64 0, .int .i64 0, .slice none 0 0, .slice none 0 0, .slice none 0 0, .slice none 0 0]) HNR1.out (by kernel_rfl) rfl (by simp [Value.oneCell']) ?_) | (refine wpList_load_row rfl 33 (.tmp 3) rfl w1.heap.size rfl 33 (tbA t ad) (0, 0) _ (HX.out _ (Below.refl _ _)) Tryz.underlying33 rfl (by kernel_rfl) ?_) | fail)
  clear HNR1
  revert HX HB1 HTM
  generalize ((w1.alloc (.cells #[.int .i64 0, .int .i64 0, .int .i64 0, .int .i64 0, .int .i64 0, .int .i64 0, .int .i64 0, .int .i64 0, .int .i64 0, .int .i64 0, .int .i64 0, .int .i64 0, .int .i64 0, .int .i64 0, .int .i64 0, .slice none 0 0, .slice none 0 0, .slice none 0 0, .slice none 0 0] 33)).setRow w1.heap.size (tbA t ad)) = V
  generalize w1.heap.size = N
  intro HX HB1 HTM
  refine Calls.mono (spec_even t ad x f V (HTM.out _ (Below.refl _ _)) HDW.out.w HDW.out.s HDW.out.f) ?_
  rintro e w2 ⟨R0, ar0, q0, rfl, hq, hb2, hK, hkw, hks⟩
  have HQ : Hid (EvA t x f R0 q0) := hq
  have HW0 : Hid (TW R0 ar0 ∧ TS ar0) := ⟨hkw, hks⟩
  have HNR2 : Hid ((w2.alloc (.cells #[.int .i64 0, .int .i64 0, .int .i64 0, .int .i64 0, .int .i64 0, .int .i64 0, .int .i64 0, .int .i64 0, .int .i64 0, .int .i64 0, .int .i64 0, .int .i64 0, .int .i64 0, .int .i64 0, .int .i64 0, .slice none 0 0, .slice none 0 0, .slice none 0 0, .slice none 0 0] 33)).heap[w2.heap.size]? = some (.cells #[.int .i64 0, .int .i64 0, .int .i64 0, .int .i64 0, .int .i64 0, .int .i64 0, .int .i64 0, .int .i64 0, .int .i64 0, .int .i64 0, .int .i64 0, .int .i64 0, .int .i64 0, .int .i64 0, .int .i64 0, .slice none 0 0, .slice none 0 0, .slice none 0 0, .slice none 0 0] 33 (0, 0))) := new_row w2 _ _ _ rfl
  have hbV : Below w2.heap.size w2 ((w2.alloc (.cells #[.int .i64 0, .int .i64 0, .int .i64 0, .int .i64 0, .int .i64 0, .int .i64 0, .int .i64 0, .int .i64 0, .int .i64 0, .int .i64 0, .int .i64 0, .int .i64 0, .int .i64 0, .int .i64 0, .int .i64 0, .slice none 0 0, .slice none 0 0, .slice none 0 0, .slice none 0 0] 33)).setRow w2.heap.size (tbA R0 ar0)) := below_setRow ((Below.refl _ _).alloc (Nat.le_refl _) _) (Nat.le_refl _) _
  have HB2 : Hid (Below V.heap.size V ((w2.alloc (.cells #[.int .i64 0, .int .i64 0, .int .i64 0, .int .i64 0, .int .i64 0, .int .i64 0, .int .i64 0, .int .i64 0, .int .i64 0, .int .i64 0, .int .i64 0, .int .i64 0, .int .i64 0, .int .i64 0, .int .i64 0, .slice none 0 0, .slice none 0 0, .slice none 0 0, .slice none 0 0] 33)).setRow w2.heap.size (tbA R0 ar0))) := hb2.trans (hbV.mono hb2.size)
  have HX2 : Hid (∀ X, Below ((w2.alloc (.cells #[.int .i64 0, .int .i64 0, .int .i64 0, .int .i64 0, .int .i64 0, .int .i64 0, .int .i64 0, .int .i64 0, .int .i64 0, .int .i64 0, .int .i64 0, .int .i64 0, .int .i64 0, .int .i64 0, .int .i64 0, .slice none 0 0, .slice none 0 0, .slice none 0 0, .slice none 0 0] 33)).setRow w2.heap.size (tbA R0 ar0)).heap.size ((w2.alloc (.cells #[.int .i64 0, .int .i64 0, .int .i64 0, .int .i64 0, .int .i64 0, .int .i64 0, .int .i64 0, .int .i64 0, .int .i64 0, .int .i64 0, .int .i64 0, .int .i64 0, .int .i64 0, .int .i64 0, .int .i64 0, .slice none 0 0, .slice none 0 0, .slice none 0 0, .slice none 0 0] 33)).setRow w2.heap.size (tbA R0 ar0)) X → X.heap[w2.heap.size]? = some (.cells (tbA R0 ar0) 33 (0, 0))) := fun X hX => row_below (setRow_heap _ _ _ _ _ _ HNR2.out) hX
  have HTM2 : Hid (∀ X, Below ((w2.alloc (.cells #[.int .i64 0, .int .i64 0, .int .i64 0, .int .i64 0, .int .i64 0, .int .i64 0, .int .i64 0, .int .i64 0, .int .i64 0, .int .i64 0, .int .i64 0, .int .i64 0, .int .i64 0, .int .i64 0, .int .i64 0, .slice none 0 0, .slice none 0 0, .slice none 0 0, .slice none 0 0] 33)).setRow w2.heap.size (tbA R0 ar0)).heap.size ((w2.alloc (.cells #[.int .i64 0, .int .i64 0, .int .i64 0, .int .i64 0, .int .i64 0, .int .i64 0, .int .i64 0, .int .i64 0, .int .i64 0, .int .i64 0, .int .i64 0, .int .i64 0, .int .i64 0, .int .i64 0, .int .i64 0, .slice none 0 0, .slice none 0 0, .slice none 0 0, .slice none 0 0] 33)).setRow w2.heap.size (tbA R0 ar0)) X → TM 0 X R0 ar0) := fun X hX => hK.tm.below (hbV.trans (hX.mono hbV.size))
  clear hq hb2 hbV hK hkw hks
  go_wp2_with (first | (refine wpList_store_row rfl 33 (.tmp 6) (.tmp 25) rfl w2.heap.size (tbA R0 ar0) rfl rfl 33 (#[.int .i64 0, .int .i64 0, .int .i64 0, .int .i64 0, .int .i64 0, .int .i64 0, .int .i64 0, .int .i64 0, .int .i64 0, .int .i64 0, .int .i64 0, .int .i64 0, .int .i64 0, .int .i64 0, .int .i64 0, .slice none 0 0, .slice none 0 0, .slice none 0 0, .slice none 0 0]) HNR2.out (by kernel_rfl) rfl (by simp [Value.oneCell']) ?_) | (refine wpList_load_row rfl 33 (.tmp 3) rfl N rfl 33 (tbA t ad) (0, 0) _ (HX.out _ HB2.out) Tryz.underlying33 rfl (by kernel_rfl) ?_) | fail)
  clear HNR2
  revert HB2 HX2 HTM2
  generalize ((w2.alloc (.cells #[.int .i64 0, .int .i64 0, .int .i64 0, .int .i64 0, .int .i64 0, .int .i64 0, .int .i64 0, .int .i64 0, .int .i64 0, .int .i64 0, .int .i64 0, .int .i64 0, .int .i64 0, .int .i64 0, .int .i64 0, .slice none 0 0, .slice none 0 0, .slice none 0 0, .slice none 0 0] 33)).setRow w2.heap.size (tbA R0 ar0)) = U
  generalize w2.heap.size = N2
  intro HB2 HX2 HTM2
  refine Calls.mono (impl_even t ad x f U (HTM.out _ HB2.out) HDW.out.w HDW.out.s (HTE.out U (HB1.out.trans (HB2.out.mono HB1.out.size))) HDW.out.c1 HDW.out.c2 HDW.out.f) ?_
  rintro e w3 ⟨R, ar, q, rfl, hq, hb3, hOT⟩
  obtain ⟨rfl, rfl⟩ := EvA.uniq hq HQ.out
  have HNR3 : Hid ((w3.alloc (.cells #[.int .i64 0, .int .i64 0, .int .i64 0, .int .i64 0, .int .i64 0, .int .i64 0, .int .i64 0, .int .i64 0, .int .i64 0, .int .i64 0, .int .i64 0, .int .i64 0, .int .i64 0, .int .i64 0, .int .i64 0, .slice none 0 0, .slice none 0 0, .slice none 0 0, .slice none 0 0] 33)).heap[w3.heap.size]? = some (.cells #[.int .i64 0, .int .i64 0, .int .i64 0, .int .i64 0, .int .i64 0, .int .i64 0, .int .i64 0, .int .i64 0, .int .i64 0, .int .i64 0, .int .i64 0, .int .i64 0, .int .i64 0, .int .i64 0, .int .i64 0, .slice none 0 0, .slice none 0 0, .slice none 0 0, .slice none 0 0] 33 (0, 0))) := new_row w3 _ _ _ rfl
  have hbV : Below w3.heap.size w3 ((w3.alloc (.cells #[.int .i64 0, .int .i64 0, .int .i64 0, .int .i64 0, .int .i64 0, .int .i64 0, .int .i64 0, .int .i64 0, .int .i64 0, .int .i64 0, .int .i64 0, .int .i64 0, .int .i64 0, .int .i64 0, .int .i64 0, .slice none 0 0, .slice none 0 0, .slice none 0 0, .slice none 0 0] 33)).setRow w3.heap.size (tbA R ar)) := below_setRow ((Below.refl _ _).alloc (Nat.le_refl _) _) (Nat.le_refl _) _
  have HBU : Hid (Below U.heap.size U ((w3.alloc (.cells #[.int .i64 0, .int .i64 0, .int .i64 0, .int .i64 0, .int .i64 0, .int .i64 0, .int .i64 0, .int .i64 0, .int .i64 0, .int .i64 0, .int .i64 0, .int .i64 0, .int .i64 0, .int .i64 0, .int .i64 0, .slice none 0 0, .slice none 0 0, .slice none 0 0, .slice none 0 0] 33)).setRow w3.heap.size (tbA R ar))) := hb3.trans (hbV.mono hb3.size)
  have HB3 : Hid (Below V.heap.size V ((w3.alloc (.cells #[.int .i64 0, .int .i64 0, .int .i64 0, .int .i64 0, .int .i64 0, .int .i64 0, .int .i64 0, .int .i64 0, .int .i64 0, .int .i64 0, .int .i64 0, .int .i64 0, .int .i64 0, .int .i64 0, .int .i64 0, .slice none 0 0, .slice none 0 0, .slice none 0 0, .slice none 0 0] 33)).setRow w3.heap.size (tbA R ar))) := HB2.out.trans (HBU.out.mono HB2.out.size)
  have HX3 : Hid (∀ X, Below ((w3.alloc (.cells #[.int .i64 0, .int .i64 0, .int .i64 0, .int .i64 0, .int .i64 0, .int .i64 0, .int .i64 0, .int .i64 0, .int .i64 0, .int .i64 0, .int .i64 0, .int .i64 0, .int .i64 0, .int .i64 0, .int .i64 0, .slice none 0 0, .slice none 0 0, .slice none 0 0, .slice none 0 0] 33)).setRow w3.heap.size (tbA R ar)).heap.size ((w3.alloc (.cells #[.int .i64 0, .int .i64 0, .int .i64 0, .int .i64 0, .int .i64 0, .int .i64 0, .int .i64 0, .int .i64 0, .int .i64 0, .int .i64 0, .int .i64 0, .int .i64 0, .int .i64 0, .int .i64 0, .int .i64 0, .slice none 0 0, .slice none 0 0, .slice none 0 0, .slice none 0 0] 33)).setRow w3.heap.size (tbA R ar)) X → X.heap[w3.heap.size]? = some (.cells (tbA R ar) 33 (0, 0))) := fun X hX => row_below (setRow_heap _ _ _ _ _ _ HNR3.out) hX
  have HMR : Hid (∀ X, Below ((w3.alloc (.cells #[.int .i64 0, .int .i64 0, .int .i64 0, .int .i64 0, .int .i64 0, .int .i64 0, .int .i64 0, .int .i64 0, .int .i64 0, .int .i64 0, .int .i64 0, .int .i64 0, .int .i64 0, .int .i64 0, .int .i64 0, .slice none 0 0, .slice none 0 0, .slice none 0 0, .slice none 0 0] 33)).setRow w3.heap.size (tbA R ar)).heap.size ((w3.alloc (.cells #[.int .i64 0, .int .i64 0, .int .i64 0, .int .i64 0, .int .i64 0, .int .i64 0, .int .i64 0, .int .i64 0, .int .i64 0, .int .i64 0, .int .i64 0, .int .i64 0, .int .i64 0, .int .i64 0, .int .i64 0, .slice none 0 0, .slice none 0 0, .slice none 0 0, .slice none 0 0] 33)).setRow w3.heap.size (tbA R ar)) X → TM 0 X R ar) := fun X hX => hOT.m.below (hbV.trans (hX.mono hbV.size))
  have HRW : Hid (TW R ar ∧ TS ar ∧ ar.pn ≤ ar.pc ∧ ar.sn ≤ ar.sc) := ⟨hOT.w, hOT.s, hOT.cp, hOT.cs⟩
  have HX0 : Hid (∀ X, Below ((w3.alloc (.cells #[.int .i64 0, .int .i64 0, .int .i64 0, .int .i64 0, .int .i64 0, .int .i64 0, .int .i64 0, .int .i64 0, .int .i64 0, .int .i64 0, .int .i64 0, .int .i64 0, .int .i64 0, .int .i64 0, .int .i64 0, .slice none 0 0, .slice none 0 0, .slice none 0 0, .slice none 0 0] 33)).setRow w3.heap.size (tbA R ar)).heap.size ((w3.alloc (.cells #[.int .i64 0, .int .i64 0, .int .i64 0, .int .i64 0, .int .i64 0, .int .i64 0, .int .i64 0, .int .i64 0, .int .i64 0, .int .i64 0, .int .i64 0, .int .i64 0, .int .i64 0, .int .i64 0, .int .i64 0, .slice none 0 0, .slice none 0 0, .slice none 0 0, .slice none 0 0] 33)).setRow w3.heap.size (tbA R ar)) X → X.heap[N2]? = some (.cells (tbA R ar0) 33 (0, 0))) := fun X hX => HX2.out X (HBU.out.trans (hX.mono HBU.out.size))
  have HM0 : Hid (∀ X, Below ((w3.alloc (.cells #[.int .i64 0, .int .i64 0, .int .i64 0, .int .i64 0, .int .i64 0, .int .i64 0, .int .i64 0, .int .i64 0, .int .i64 0, .int .i64 0, .int .i64 0, .int .i64 0, .int .i64 0, .int .i64 0, .int .i64 0, .slice none 0 0, .slice none 0 0, .slice none 0 0, .slice none 0 0] 33)).setRow w3.heap.size (tbA R ar)).heap.size ((w3.alloc (.cells #[.int .i64 0, .int .i64 0, .int .i64 0, .int .i64 0, .int .i64 0, .int .i64 0, .int .i64 0, .int .i64 0, .int .i64 0, .int .i64 0, .int .i64 0, .int .i64 0, .int .i64 0, .int .i64 0, .int .i64 0, .slice none 0 0, .slice none 0 0, .slice none 0 0, .slice none 0 0] 33)).setRow w3.heap.size (tbA R ar)) X → TM 0 X R ar0) := fun X hX => HTM2.out X (HBU.out.trans (hX.mono HBU.out.size))
  have HXT : Hid (∀ X, Below ((w3.alloc (.cells #[.int .i64 0, .int .i64 0, .int .i64 0, .int .i64 0, .int .i64 0, .int .i64 0, .int .i64 0, .int .i64 0, .int .i64 0, .int .i64 0, .int .i64 0, .int .i64 0, .int .i64 0, .int .i64 0, .int .i64 0, .slice none 0 0, .slice none 0 0, .slice none 0 0, .slice none 0 0] 33)).setRow w3.heap.size (tbA R ar)).heap.size ((w3.alloc (.cells #[.int .i64 0, .int .i64 0, .int .i64 0, .int .i64 0, .int .i64 0, .int .i64 0, .int .i64 0, .int .i64 0, .int .i64 0, .int .i64 0, .int .i64 0, .int .i64 0, .int .i64 0, .int .i64 0, .int .i64 0, .slice none 0 0, .slice none 0 0, .slice none 0 0, .slice none 0 0] 33)).setRow w3.heap.size (tbA R ar)) X → X.heap[N]? = some (.cells (tbA t ad) 33 (0, 0))) := fun X hX => HX.out X (HB3.out.trans (hX.mono HB3.out.size))
  have HMT : Hid (∀ X, Below ((w3.alloc (.cells #[.int .i64 0, .int .i64 0, .int .i64 0, .int .i64 0, .int .i64 0, .int .i64 0, .int .i64 0, .int .i64 0, .int .i64 0, .int .i64 0, .int .i64 0, .int .i64 0, .int .i64 0, .int .i64 0, .int .i64 0, .slice none 0 0, .slice none 0 0, .slice none 0 0, .slice none 0 0] 33)).setRow w3.heap.size (tbA R ar)).heap.size ((w3.alloc (.cells #[.int .i64 0, .int .i64 0, .int .i64 0, .int .i64 0, .int .i64 0, .int .i64 0, .int .i64 0, .int .i64 0, .int .i64 0, .int .i64 0, .int .i64 0, .int .i64 0, .int .i64 0, .int .i64 0, .int .i64 0, .slice none 0 0, .slice none 0 0, .slice none 0 0, .slice none 0 0] 33)).setRow w3.heap.size (tbA R ar)) X → TM 0 X t ad) := fun X hX => HTM.out X (HB3.out.trans (hX.mono HB3.out.size))
  have HBW : Hid (Below w.heap.size w ((w3.alloc (.cells #[.int .i64 0, .int .i64 0, .int .i64 0, .int .i64 0, .int .i64 0, .int .i64 0, .int .i64 0, .int .i64 0, .int .i64 0, .int .i64 0, .int .i64 0, .int .i64 0, .int .i64 0, .int .i64 0, .int .i64 0, .slice none 0 0, .slice none 0 0, .slice none 0 0, .slice none 0 0] 33)).setRow w3.heap.size (tbA R ar))) := HB1.out.trans (HB3.out.mono HB1.out.size)
  have HE4 : Hid (∀ X, Below ((w3.alloc (.cells #[.int .i64 0, .int .i64 0, .int .i64 0, .int .i64 0, .int .i64 0, .int .i64 0, .int .i64 0, .int .i64 0, .int .i64 0, .int .i64 0, .int .i64 0, .int .i64 0, .int .i64 0, .int .i64 0, .int .i64 0, .slice none 0 0, .slice none 0 0, .slice none 0 0, .slice none 0 0] 33)).setRow w3.heap.size (tbA R ar)).heap.size ((w3.alloc (.cells #[.int .i64 0, .int .i64 0, .int .i64 0, .int .i64 0, .int .i64 0, .int .i64 0, .int .i64 0, .int .i64 0, .int .i64 0, .int .i64 0, .int .i64 0, .int .i64 0, .int .i64 0, .int .i64 0, .int .i64 0, .slice none 0 0, .slice none 0 0, .slice none 0 0, .slice none 0 0] 33)).setRow w3.heap.size (tbA R ar)) X → TabE X) := fun X hX => HTE.out X (HBW.out.trans (hX.mono HBW.out.size))
  clear hq hb3 hbV hOT HB2 HBU HB3 HX HX2 HTM HTM2 HTE HB1
  go_wp2_with (first | (refine wpList_store_row rfl 33 (.tmp 8) (.tmp 32) rfl w3.heap.size (tbA R ar) rfl rfl 33 (#[.int .i64 0, .int .i64 0, .int .i64 0, .int .i64 0, .int .i64 0, .int .i64 0, .int .i64 0, .int .i64 0, .int .i64 0, .int .i64 0, .int .i64 0, .int .i64 0, .int .i64 0, .int .i64 0, .int .i64 0, .slice none 0 0, .slice none 0 0, .slice none 0 0, .slice none 0 0]) HNR3.out (by kernel_rfl) rfl (by simp [Value.oneCell']) ?_) | (refine wpList_load_row_w (by rfl) 33 (.tmp 8) rfl w3.heap.size rfl 33 (tbA R ar) (0, 0) _ (HX3.out _ (Below.refl _ _)) Tryz.underlying33 rfl (by kernel_rfl) ?_) | (refine wpList_load_row_w (by rfl) 33 (.tmp 6) rfl N2 rfl 33 (tbA R ar0) (0, 0) _ (HX0.out _ (Below.refl _ _)) Tryz.underlying33 rfl (by kernel_rfl) ?_) | fail)
  clear HNR3
  revert HX3 HMR HX0 HM0 HXT HMT HBW HE4
  generalize ((w3.alloc (.cells #[.int .i64 0, .int .i64 0, .int .i64 0, .int .i64 0, .int .i64 0, .int .i64 0, .int .i64 0, .int .i64 0, .int .i64 0, .int .i64 0, .int .i64 0, .int .i64 0, .int .i64 0, .int .i64 0, .int .i64 0, .slice none 0 0, .slice none 0 0, .slice none 0 0, .slice none 0 0] 33)).setRow w3.heap.size (tbA R ar)) = U4
  generalize w3.heap.size = N3
  intro HX3 HMR HX0 HM0 HXT HMT HBW HE4
  refine Calls.mono (same_tables R ar ar0 U4 (HMR.out _ (Below.refl _ _)) (HM0.out _ (Below.refl _ _)) HRW.out.1 HW0.out.1 HRW.out.2.1 HW0.out.2) ?_
  rintro e w5 ⟨rfl, hb5⟩
  have HB5 : Hid (Below U4.heap.size U4 w5) := hb5
  clear hb5 HX0 HM0 HW0
  cases q
  · have HBE : Hid (Below w.heap.size w w5) := HBW.out.trans (HB5.out.mono HBW.out.size)
    clear HQ HX3 HMR HXT HMT HRW HE4 HB5
    go_wp2
    go_ret
    exact ⟨rfl, HBE.out⟩
  obtain ⟨m, lv, mv, u, u1, hY⟩ := evy HQ.out rfl HDW.out.w HRW.out.1
  have HY : Hid (EvY t R ad ar x m lv mv u u1) := hY
  clear hY HQ
  have hpn : ad.pn ≤ 1048576 := HDW.out.s.p
  have cR : w5.cell? ⟨N3, 18, none⟩ = some (.slice ar.sa ar.sn ar.sc) := TBx.cell (HX3.out _ HB5.out) 18 rfl
  have cT : w5.cell? ⟨N, 18, none⟩ = some (.slice ad.sa ad.sn ad.sc) := TBx.cell (HXT.out _ HB5.out) 18 rfl
  have hwm : IntKind.i64.wrap ((ar.sn : Int) - (ad.sn : Int)) = m := by have := HY.out.mm; have := HY.out.m0; have := HY.out.mb; rw [IntKind.wrap_i64]; omega
  go_wp2_with fail
  clear cR cT hwm
  have c12 : w5.cell? ⟨N, 12, none⟩ = some (.int .i64 t.pad) := TBx.cell (HXT.out _ HB5.out) 12 rfl
  have c13 : w5.cell? ⟨N, 13, none⟩ = some (.int .i64 t.grd) := TBx.cell (HXT.out _ HB5.out) 13 rfl
  have G12 := fun X => gr_cell c12 X
  have G13 := fun X => gr_cell c13 X
  have HXX : Hid (∀ X, (∃ x : Gr w5, X = x.w) → X.heap[N]? = some (.cells (tbA t ad) 33 (0, 0))) := fun X ⟨x, hx⟩ => by rw [hx]; exact HXT.out _ (HB5.out.trans (x.h.mono HB5.out.size))
  have HXO : Hid (∀ X, (∃ x : Gr w5, X = x.w) → X.heap[N3]? = some (.cells (tbA R ar) 33 (0, 0))) := fun X ⟨x, hx⟩ => by rw [hx]; exact HX3.out _ (HB5.out.trans (x.h.mono HB5.out.size))
  have g1 : GG w5 R ar := ⟨HY.out.sr, fun X hX => ⟨HMR.out _ (HB5.out.trans (hX.mono HB5.out.size)), HE4.out _ (HB5.out.trans (hX.mono HB5.out.size))⟩, HRW.out.1, HRW.out.2.1, HRW.out.2.2.1⟩
  have g2 : GG w5 t ad := ⟨HY.out.sd, fun X hX => ⟨HMT.out _ (HB5.out.trans (hX.mono HB5.out.size)), HE4.out _ (HB5.out.trans (hX.mono HB5.out.size))⟩, HDW.out.w, HDW.out.s, HDW.out.c1⟩
  obtain ⟨gv, HGV⟩ : ∃ g, Hid (t.maj - lenN t.ss t.ss.length = g) := ⟨_, rfl⟩
  have HS0 : Hid (∀ T A, GG w5 T A → ∀ y : Gr w5, Calls Tryz.prog 13 #[tbV T A] y.w fun e w' => e = .returned (.bool true) ∧ Below y.w.heap.size y.w w') := fun T A h y => sound_gg h y
  obtain ⟨S, HSS, hsf⟩ := share_fun w5 x
  have HSS : Hid _ := HSS
  obtain ⟨G, HSG, hgf⟩ := gap_fun w5
  have HSG : Hid _ := HSG
  have hS1 : S R = u1 := by rw [hsf]; exact HY.out.ur
  have hS2 : S t = u := by rw [hsf]; exact HY.out.ue
  have hG1 : G R = gv := by rw [hgf]; exact HY.out.mj.trans HGV.out
  have hG2 : G t = gv := by rw [hgf]; exact HGV.out
  clear hsf hgf
  have HG2 : Hid (GG w5 t ad) := g2
  have HG1 : Hid (GG w5 R ar) := g1
  have hm0 := HY.out.m0
  have hm1 : ¬ m < 0 := by omega
  have hm2 : decide (m < 0) = false := decide_eq_false hm1
  have hlw : IntKind.i64.wrap (t.pad + t.grd) = lv := by have := HY.out.lw; have := HY.out.lb; rw [IntKind.wrap_i64]; omega
  have hmw : IntKind.i64.wrap (m * lv) = mv := by have := HY.out.mw; have := HY.out.mvb; rw [IntKind.wrap_i64]; omega
  have huw : IntKind.i64.wrap (u - mv) = u1 := by have := HY.out.u1e; have := HY.out.ub; have := HY.out.mvb; rw [IntKind.wrap_i64]; omega
  have hlw' : wrap64 (t.pad + t.grd) = lv := by have := HY.out.lw; have := HY.out.lb; unfold wrap64; omega
  have hmw' : wrap64 (m * lv) = mv := by have := HY.out.mw; have := HY.out.mvb; unfold wrap64; omega
  have huw' : wrap64 (u - mv) = u1 := by have := HY.out.u1e; have := HY.out.ub; have := HY.out.mvb; unfold wrap64; omega
  clear g1 g2 HGV c12 c13
  have hgr := gr_some w5
  try simp only [Act.put]
  refine region_alike (by kernel_rfl) (by kernel_rfl) ?_
  repeat (first | go_big_quiet_skip | (refine wpQuiet_load_row rfl 33 (.tmp 3) rfl N rfl 33 (tbA t ad) (0, 0) _ HXX.out Tryz.underlying33 rfl (by kernel_rfl) ?_; simp only [Act.put, List.setIfInBounds_toArray, List.set_cons_zero, List.set_cons_succ]) | (refine wpQuiet_load_row rfl 33 (.tmp 8) rfl N3 rfl 33 (tbA R ar) (0, 0) _ HXO.out Tryz.underlying33 rfl (by kernel_rfl) ?_; simp only [Act.put, List.setIfInBounds_toArray, List.set_cons_zero, List.set_cons_succ]) | go_big_quiet_step (first | (go_at_call 13; exact gr_call (HS0.out _ _ HG1.out _)) | (go_at_call 14; refine gr_call (HSS.out _ _ ?_ _); first | exact HG1.out | exact HG2.out) | (go_at_call 15; refine gr_call (HSG.out _ _ ?_ _); first | exact HG1.out | exact HG2.out)))
  refine wpQuiet_nil ?_
  intro _ hw'
  obtain ⟨X1, rfl⟩ := hw'
  have HB6 : Hid (Below U4.heap.size U4 X1.w) := HB5.out.trans (X1.h.mono HB5.out.size)
  generalize X1.w = w6 at HB6 ⊢
  clear hgr G12 G13 HXX HXO HS0 HSS HSG HG1 HG2 hS1 hS2 hG1 hG2 hm1 hm2 hlw hmw huw hlw' hmw' huw' HB5
  go_wp2
  go_loopw [11] (fun vi wr => ∃ p : Nat, p ≤ ad.pn ∧ vi = .int .i64 p ∧ Hid (Below U4.heap.size U4 wr)) (fun vi _ => ad.pn - (intOf vi).toNat)
  case atStart => exact ⟨0, by omega, rfl, HB6.out⟩
  case round =>
    clear HB6
    obtain ⟨p, hp, rfl, HB⟩ := hrel
    have k15 : wr.cell? ⟨N, 15, none⟩ = some (.slice ad.pa ad.pn ad.pc) := TBx.cell (HXT.out _ HB.out) 15 rfl
    by_cases hlt : p < ad.pn
    rotate_left
    · obtain rfl : p = ad.pn := by omega
      have hnl : ¬ ((ad.pn : Int) < (ad.pn : Int)) := by omega
      have HBX : Hid (Below w.heap.size w wr) := HBW.out.trans (HB.out.mono HBW.out.size)
      go_wp2
      go_ret
      exact ⟨rfl, HBX.out⟩
    have hlt' : (p : Int) < (ad.pn : Int) := by omega
    have HXX : Hid (∀ X, (∃ x : Gr wr, X = x.w) → X.heap[N]? = some (.cells (tbA t ad) 33 (0, 0))) := fun X ⟨x, hx⟩ => by rw [hx]; exact HXT.out _ (HB.out.trans (x.h.mono HB.out.size))
    have HXO : Hid (∀ X, (∃ x : Gr wr, X = x.w) → X.heap[N3]? = some (.cells (tbA R ar) 33 (0, 0))) := fun X ⟨x, hx⟩ => by rw [hx]; exact HX3.out _ (HB.out.trans (x.h.mono HB.out.size))
    have g1 : GG wr R ar := ⟨HY.out.sr, fun X hX => ⟨HMR.out _ (HB.out.trans (hX.mono HB.out.size)), HE4.out _ (HB.out.trans (hX.mono HB.out.size))⟩, HRW.out.1, HRW.out.2.1, HRW.out.2.2.1⟩
    have g2 : GG wr t ad := ⟨HY.out.sd, fun X hX => ⟨HMT.out _ (HB.out.trans (hX.mono HB.out.size)), HE4.out _ (HB.out.trans (hX.mono HB.out.size))⟩, HDW.out.w, HDW.out.s, HDW.out.c1⟩
    obtain ⟨S, HSS, hsf⟩ := share_fun wr (p : Int)
    have HSS : Hid _ := HSS
    obtain ⟨L, HSL, hlf⟩ := lat_fun wr (p : Int)
    have HSL : Hid _ := HSL
    have HG1 : Hid (GG wr R ar ∧ ar.sn ≤ ar.sc) := ⟨g1, HRW.out.2.2.2⟩
    have HG2 : Hid (GG wr t ad ∧ ad.sn ≤ ad.sc) := ⟨g2, HDW.out.c2⟩
    clear g1 g2
    by_cases hx : (p : Int) = x
    · subst hx
      clear hsf hlf
      go_wp2
      clear k15
      have hgr := gr_some wr
      try simp only [Act.put]
      refine region_alike (by kernel_rfl) (by kernel_rfl) ?_
      repeat (first | go_big_quiet_skip | (refine wpQuiet_load_row rfl 33 (.tmp 3) rfl N rfl 33 (tbA t ad) (0, 0) _ HXX.out Tryz.underlying33 rfl (by kernel_rfl) ?_; simp only [Act.put, List.setIfInBounds_toArray, List.set_cons_zero, List.set_cons_succ]) | (refine wpQuiet_load_row rfl 33 (.tmp 8) rfl N3 rfl 33 (tbA R ar) (0, 0) _ HXO.out Tryz.underlying33 rfl (by kernel_rfl) ?_; simp only [Act.put, List.setIfInBounds_toArray, List.set_cons_zero, List.set_cons_succ]) | go_big_quiet_step (first | (go_at_call 14; refine gr_call (HSS.out _ _ ?_ _); first | exact HG1.out.1 | exact HG2.out.1) | (go_at_call 19; refine gr_call (HSL.out _ _ ?_ _); first | exact HG1.out | exact HG2.out)))
      refine wpQuiet_nil ?_
      intro _ hw'
      obtain ⟨X1, rfl⟩ := hw'
      have HBX : Hid (Below U4.heap.size U4 X1.w) := HB.out.trans (X1.h.mono HB.out.size)
      generalize X1.w = w8 at HBX ⊢
      clear hgr HSS HSL HXX HXO
      go_wp2
      go_roundw
      case rel => exact ⟨p + 1, by omega, by first | rfl | go_num, HBX.out⟩
      case measure => simp [intOf]; omega
    · have hxb : ((p : Int) == x) = false := beq_eq_false_iff_ne.2 hx
      have hxn : ((p : Int) != x) = true := by simp [bne, hxb]
      have hS1 : S R = S t := by rw [hsf, hsf]; exact HY.out.sq _ hx
      have hL1 : L R = L t := by rw [hlf, hlf]; exact HY.out.l _ hx
      clear hsf hlf
      go_wp2
      clear k15
      have hgr := gr_some wr
      try simp only [Act.put]
      refine region_alike (by kernel_rfl) (by kernel_rfl) ?_
      repeat (first | go_big_quiet_skip | (refine wpQuiet_load_row rfl 33 (.tmp 3) rfl N rfl 33 (tbA t ad) (0, 0) _ HXX.out Tryz.underlying33 rfl (by kernel_rfl) ?_; simp only [Act.put, List.setIfInBounds_toArray, List.set_cons_zero, List.set_cons_succ]) | (refine wpQuiet_load_row rfl 33 (.tmp 8) rfl N3 rfl 33 (tbA R ar) (0, 0) _ HXO.out Tryz.underlying33 rfl (by kernel_rfl) ?_; simp only [Act.put, List.setIfInBounds_toArray, List.set_cons_zero, List.set_cons_succ]) | go_big_quiet_step (first | (go_at_call 14; refine gr_call (HSS.out _ _ ?_ _); first | exact HG1.out.1 | exact HG2.out.1) | (go_at_call 19; refine gr_call (HSL.out _ _ ?_ _); first | exact HG1.out | exact HG2.out)))
      refine wpQuiet_nil ?_
      intro _ hw'
      obtain ⟨X1, rfl⟩ := hw'
      have HBX : Hid (Below U4.heap.size U4 X1.w) := HB.out.trans (X1.h.mono HB.out.size)
      generalize X1.w = w8 at HBX ⊢
      clear hgr HSS HSL HXX HXO
      go_wp2
      go_roundw
      case rel => exact ⟨p + 1, by omega, by first | rfl | go_num, HBX.out⟩
      case measure => simp [intOf]; omega
end Go.Proofs.YtlomcdgfcocmmaaGreatDoor
namespace Go.Proofs.YtlomcdgfcocmmaaGreatDoor
open Go.ChangeShapes Go.WideShapes Go.ChangeAt Go.RowKit Go.Deep Go.Joins
set_option linter.unusedVariables false

theorem res_l23 {W : World} {B : Nat} {cs : Array Value} {v : Value} {tmps : Array Value} (h : W.heap[B]? = some (.cells cs 33 (0, 0))) (hl : cs.size = 19) (ht : tmps[2]? = some (.pointer (some ⟨B, 0, none⟩))) (hq : tmps[3]? = some v) : (results Tryz.f28 tmps).run Tryz.prog W = .ok (.tuple #[.agg cs, v]) W := by
  have hld : (loadVar 33 ⟨B, 0, none⟩).run Tryz.prog W = .ok (.agg cs) W := run_loadVar_row (P := Tryz.prog) W B 33 33 cs (0, 0) _ h Tryz.underlying33 rfl (by rw [hl]; kernel_rfl)
  unfold results
  rw [Tryz.results28]
  simp [ht, hq, asAddr, hld]
structure L23 (W0 : World) (B : Nat) (a : Option Addr) (zs : List Int) (cap : Nat) (w : World) (t : Tb) (ad : Ad) (VB : Nat) (w' : World) (b0 b1 b2 b3 b4 b5 b6 b7 b8 b9 : Bool) (x10 x11 x12 x13 x14 x15 x16 x17 x3 : Value) : Prop where
  cu : b8 = false → Cur w' B a zs cap
  tu : b8 = false → Turn B W0 w'
  cl : b8 = true → b0 = true ∧ b1 = true ∧ b2 = true ∧ b3 = true ∧ b4 = true ∧ b5 = true ∧ b6 = true ∧ True
  la : b8 = true → ∃ V, Cur V B a zs cap ∧ Turn B W0 V ∧ w' = (V).setRow w.heap.size (tbA t ad)
  k3 : b3 = true → b2 = true ∧ True
  k4 : b4 = true → b3 = true ∧ True
  k5 : b5 = true → b4 = true ∧ True
  k6 : b6 = true → b1 = true ∧ b5 = true ∧ True
  k7 : b7 = true → b6 = true ∧ True
  k9 : b9 = true → b7 = true ∧ True
  f0 : b0 = true → x10 = tbV t ad
  f1 : b1 = true → x11 = .pointer (some ⟨B, 0, none⟩)
  f2 : b2 = true → x12 = .pointer (some ⟨VB, 18, none⟩)
  f3 : b3 = true → x13 = .slice ad.sa ad.sn ad.sc
  f4 : b4 = true → x14 = .int .i64 (ad.sn : Int)
  f5 : b5 = true → x15 = .int .i64 ((ad.sn : Int) + 2)
  f6 : b6 = true → ∃ y : Int, x16 = .int .i64 y ∧ (0 ≤ y ∧ y < ((ad.sn : Int) + 2))
  f7 : b7 = true → ∃ y : Int, x16 = .int .i64 y ∧ x17 = .int .i64 (IntKind.i64.wrap (y - 1))
  f9 : b9 = true → ∃ y : Int, x16 = .int .i64 y ∧ x3 = .int .i64 (IntKind.i64.wrap (y - 1))
set_option maxRecDepth 40000 in
set_option maxHeartbeats 16000000 in
theorem draw_slot (w : World) (a : Option Addr) (zs : List Int) (cap n : Nat) (hs : Seg .u8 w a zs) (hb : ∀ z ∈ zs, (Lit.int .u8 z).wf = true) (hl : zs.length = n) (hn : n ≤ 1048576) :
    Calls Tryz.prog 28 #[.slice a n cap] w fun e w' => ∃ T A i, e = .returned (.tuple #[tbV T A, .int .i64 i]) ∧ DSp w.heap.size w' T A ∧ -1 ≤ i ∧ i ≤ (A.sn : Int) ∧ Below w.heap.size w w' := by
  have HLA : Hid (∀ b off, a = some ⟨b, off, none⟩ → 0 < zs.length → b < w.heap.size) := seg_lt hs
  have HB0 : Hid (Below w.heap.size w (w.alloc (.cells #[.int .i64 0, .int .i64 0, .int .i64 0, .int .i64 0, .int .i64 0, .int .i64 0, .int .i64 0, .int .i64 0, .int .i64 0, .int .i64 0, .int .i64 0, .int .i64 0, .int .i64 0, .int .i64 0, .int .i64 0, .slice none 0 0, .slice none 0 0, .slice none 0 0, .slice none 0 0] 33))) := (Below.refl _ _).alloc (Nat.le_refl _) _
  have HR0 : Hid (RV (w.alloc (.cells #[.int .i64 0, .int .i64 0, .int .i64 0, .int .i64 0, .int .i64 0, .int .i64 0, .int .i64 0, .int .i64 0, .int .i64 0, .int .i64 0, .int .i64 0, .int .i64 0, .int .i64 0, .int .i64 0, .int .i64 0, .slice none 0 0, .slice none 0 0, .slice none 0 0, .slice none 0 0] 33)) w.heap.size #[.int .i64 0, .int .i64 0, .int .i64 0, .int .i64 0, .int .i64 0, .int .i64 0, .int .i64 0, .int .i64 0, .int .i64 0, .int .i64 0, .int .i64 0, .int .i64 0, .int .i64 0, .int .i64 0, .int .i64 0, .slice none 0 0, .slice none 0 0, .slice none 0 0, .slice none 0 0]) := new_row w _ _ _ rfl
  have HN : Hid (Calls Tryz.prog 29 #[.slice a n cap] (w.alloc (.cells #[.int .i64 0, .int .i64 0, .int .i64 0, .int .i64 0, .int .i64 0, .int .i64 0, .int .i64 0, .int .i64 0, .int .i64 0, .int .i64 0, .int .i64 0, .int .i64 0, .int .i64 0, .int .i64 0, .int .i64 0, .slice none 0 0, .slice none 0 0, .slice none 0 0, .slice none 0 0] 33)) fun e w' => e = .returned (.pointer (some ⟨w.heap.size + 1, 0, none⟩)) ∧ Cur w' (w.heap.size + 1) a zs cap ∧ Below (w.heap.size + 1) (w.alloc (.cells #[.int .i64 0, .int .i64 0, .int .i64 0, .int .i64 0, .int .i64 0, .int .i64 0, .int .i64 0, .int .i64 0, .int .i64 0, .int .i64 0, .int .i64 0, .int .i64 0, .int .i64 0, .int .i64 0, .int .i64 0, .slice none 0 0, .slice none 0 0, .slice none 0 0, .slice none 0 0] 33)) w') := by
    have hz : (w.alloc (.cells #[.int .i64 0, .int .i64 0, .int .i64 0, .int .i64 0, .int .i64 0, .int .i64 0, .int .i64 0, .int .i64 0, .int .i64 0, .int .i64 0, .int .i64 0, .int .i64 0, .int .i64 0, .int .i64 0, .int .i64 0, .slice none 0 0, .slice none 0 0, .slice none 0 0, .slice none 0 0] 33)).heap.size = w.heap.size + 1 := by simp
    have h := draw_new (w.alloc (.cells #[.int .i64 0, .int .i64 0, .int .i64 0, .int .i64 0, .int .i64 0, .int .i64 0, .int .i64 0, .int .i64 0, .int .i64 0, .int .i64 0, .int .i64 0, .int .i64 0, .int .i64 0, .int .i64 0, .int .i64 0, .slice none 0 0, .slice none 0 0, .slice none 0 0, .slice none 0 0] 33)) a zs cap (hs.below HB0.out) hb (by omega)
    rw [hl, hz] at h
    exact h
  clear hs hb hl hn
  go_enter Tryz.func28, Tryz.ntmps28
  go_wp2_with fail
  refine Calls.mono HN.out ?_
  rintro e w1 ⟨rfl, hc, hb1⟩
  obtain ⟨B, HB⟩ : ∃ B, Hid (w.heap.size + 1 = B) := ⟨_, rfl⟩
  have HC1 : Hid (Cur w1 B a zs cap) := by show Cur w1 B a zs cap; rw [← HB.out]; exact hc
  have HB1 : Hid (Below w.heap.size w w1) := HB0.out.trans (hb1.mono (Nat.le_succ _))
  have HR1 : Hid (RV w1 w.heap.size #[.int .i64 0, .int .i64 0, .int .i64 0, .int .i64 0, .int .i64 0, .int .i64 0, .int .i64 0, .int .i64 0, .int .i64 0, .int .i64 0, .int .i64 0, .int .i64 0, .int .i64 0, .int .i64 0, .int .i64 0, .slice none 0 0, .slice none 0 0, .slice none 0 0, .slice none 0 0]) := HR0.out.below hb1 (Nat.lt_succ_self _)
  rw [HB.out]
  clear hc hb1 HB0 HR0 HN
  go_wp2_with fail
  refine Calls.mono (draw_any w1 B a zs cap HC1.out) ?_
  rintro e w2 ⟨t, ad, rfl, hda⟩
  have hBs := HC1.out.lt
  have HB2 : Hid (Below w.heap.size w w2) := HB1.out.trans (hda.tu.below (by have := HB.out; omega) HB1.out.size)
  have HR2 : Hid (RV w2 w.heap.size #[.int .i64 0, .int .i64 0, .int .i64 0, .int .i64 0, .int .i64 0, .int .i64 0, .int .i64 0, .int .i64 0, .int .i64 0, .int .i64 0, .int .i64 0, .int .i64 0, .int .i64 0, .int .i64 0, .int .i64 0, .slice none 0 0, .slice none 0 0, .slice none 0 0, .slice none 0 0]) := HR1.out.turn hda.tu (by have := HB.out; omega)
  have hBs2 : B < w2.heap.size := hda.cu.lt
  have HNR : Hid (RV (w2.alloc (.cells #[.int .i64 0, .int .i64 0, .int .i64 0, .int .i64 0, .int .i64 0, .int .i64 0, .int .i64 0, .int .i64 0, .int .i64 0, .int .i64 0, .int .i64 0, .int .i64 0, .int .i64 0, .int .i64 0, .int .i64 0, .slice none 0 0, .slice none 0 0, .slice none 0 0, .slice none 0 0] 33)) w2.heap.size #[.int .i64 0, .int .i64 0, .int .i64 0, .int .i64 0, .int .i64 0, .int .i64 0, .int .i64 0, .int .i64 0, .int .i64 0, .int .i64 0, .int .i64 0, .int .i64 0, .int .i64 0, .int .i64 0, .int .i64 0, .slice none 0 0, .slice none 0 0, .slice none 0 0, .slice none 0 0]) := new_row w2 _ _ _ rfl
  have HPB : Hid (PB w B a zs w2.heap.size (w1.heap.size + 1) ad) := ⟨HB.out.symm, by omega, hBs2, fun k hk => by have := (hda.o.inl hk).2; omega, HLA.out⟩
  have HPN : Hid (PN w ((w2.alloc (.cells #[.int .i64 0, .int .i64 0, .int .i64 0, .int .i64 0, .int .i64 0, .int .i64 0, .int .i64 0, .int .i64 0, .int .i64 0, .int .i64 0, .int .i64 0, .int .i64 0, .int .i64 0, .int .i64 0, .int .i64 0, .slice none 0 0, .slice none 0 0, .slice none 0 0, .slice none 0 0] 33)).setRow w2.heap.size (tbA t ad)) B a zs cap w2.heap.size (w1.heap.size + 1) t ad) := by
    have hb : Below w2.heap.size w2 ((w2.alloc (.cells #[.int .i64 0, .int .i64 0, .int .i64 0, .int .i64 0, .int .i64 0, .int .i64 0, .int .i64 0, .int .i64 0, .int .i64 0, .int .i64 0, .int .i64 0, .int .i64 0, .int .i64 0, .int .i64 0, .int .i64 0, .slice none 0 0, .slice none 0 0, .slice none 0 0, .slice none 0 0] 33)).setRow w2.heap.size (tbA t ad)) := below_setRow ((Below.refl _ _).alloc (Nat.le_refl _) _) (Nat.le_refl _) _
    exact ⟨hda.cu.below hb, HB2.out.trans (hb.mono HB2.out.size), HR2.out.below hb HR2.out.lt, setRow_heap _ _ _ _ _ _ HNR.out, hda.o.keep hb.size (fun k hk => hb.block k (hda.o.inl hk).2)⟩
  have HTW : Hid (TW t ad) := hda.tw
  have HTS : Hid (TS ad) := hda.ts
  have HCP : Hid (ad.pn ≤ ad.pc ∧ ad.sn ≤ ad.sc) := ⟨hda.c1, hda.c2⟩
  have HP2 : Hid (2 ≤ ad.pn ∧ ad.pn ≤ 4) := hda.p2
  have HCU0 : Hid (Cur ((w2.alloc (.cells #[.int .i64 0, .int .i64 0, .int .i64 0, .int .i64 0, .int .i64 0, .int .i64 0, .int .i64 0, .int .i64 0, .int .i64 0, .int .i64 0, .int .i64 0, .int .i64 0, .int .i64 0, .int .i64 0, .int .i64 0, .slice none 0 0, .slice none 0 0, .slice none 0 0, .slice none 0 0] 33)).setRow w2.heap.size (tbA t ad)) B a zs cap) := HPN.out.cu
  have HBW : Hid (B < ((w2.alloc (.cells #[.int .i64 0, .int .i64 0, .int .i64 0, .int .i64 0, .int .i64 0, .int .i64 0, .int .i64 0, .int .i64 0, .int .i64 0, .int .i64 0, .int .i64 0, .int .i64 0, .int .i64 0, .int .i64 0, .int .i64 0, .slice none 0 0, .slice none 0 0, .slice none 0 0, .slice none 0 0] 33)).setRow w2.heap.size (tbA t ad)).heap.size) := HPN.out.cu.lt
  have HSN : Hid (ad.sn ≤ 1048576) := HTS.out.s
  have HWR : Hid (IntKind.i64.wrap ((ad.sn : Int) + 2) = (ad.sn : Int) + 2) := by
    have := HSN.out
    show _ = _
    rw [IntKind.wrap_i64]; omega
  clear hda HB1 HR1 HC1 HB2 HR2 HLA
  go_wp2_with (first | (refine wpList_store_row rfl 33 (.tmp 5) (.tmp 9) rfl w2.heap.size (tbA t ad) rfl rfl 33 (#[.int .i64 0, .int .i64 0, .int .i64 0, .int .i64 0, .int .i64 0, .int .i64 0, .int .i64 0, .int .i64 0, .int .i64 0, .int .i64 0, .int .i64 0, .int .i64 0, .int .i64 0, .int .i64 0, .int .i64 0, .slice none 0 0, .slice none 0 0, .slice none 0 0, .slice none 0 0]) HNR.out (by kernel_rfl) rfl (by simp [Value.oneCell']) ?_) | fail)
  clear HNR
  revert HPB HPN HCU0 HBW
  generalize (w2.alloc (.cells #[.int .i64 0, .int .i64 0, .int .i64 0, .int .i64 0, .int .i64 0, .int .i64 0, .int .i64 0, .int .i64 0, .int .i64 0, .int .i64 0, .int .i64 0, .int .i64 0, .int .i64 0, .int .i64 0, .int .i64 0, .slice none 0 0, .slice none 0 0, .slice none 0 0, .slice none 0 0] 33)).setRow w2.heap.size (tbA t ad) = w3
  generalize w2.heap.size = VB
  generalize w1.heap.size + 1 = lo
  intro HPB HPN HCU0 HBW
  clear hBs hBs2
  refine wp_region_inv (by kernel_rfl) (by kernel_rfl) (fun AC ℓ a' w' => ∃ (x10 x11 x12 x13 x14 x15 x16 x17 x3 : Value), a' = (((((((((AC.put (some 10) x10).put (some 11) x11).put (some 12) x12).put (some 13) x13).put (some 14) x14).put (some 15) x15).put (some 16) x16).put (some 17) x17).put (some 3) x3) ∧ L23 (w3) B a zs cap (w) (t) (ad) (VB)  w' (ℓ 0) (ℓ 1) (ℓ 2) (ℓ 3) (ℓ 4) (ℓ 5) (ℓ 6) (ℓ 7) (ℓ 8) (ℓ 9) x10 x11 x12 x13 x14 x15 x16 x17 x3) ?_ ?_ ?_ ?_
  · exact ⟨undef, undef, undef, undef, undef, undef, undef, undef, (.int .i64 0), (by simp only [Act.put, List.setIfInBounds_toArray, List.set_cons_zero, List.set_cons_succ]), ⟨(fun _ => HCU0.out.drewN 1), (fun _ => (Turn.refl _ _).drewN 1), (fun g => by cases g), (fun g => by cases g), (fun g => by cases g), (fun g => by cases g), (fun g => by cases g), (fun g => by cases g), (fun g => by cases g), (fun g => by cases g), (fun g => by cases g), (fun g => by cases g), (fun g => by cases g), (fun g => by cases g), (fun g => by cases g), (fun g => by cases g), (fun g => by cases g), (fun g => by cases g), (fun g => by cases g)⟩⟩
  · intro ℓ a' w' hI hall
    obtain ⟨x10, x11, x12, x13, x14, x15, x16, x17, x3, rfl, hr⟩ := hI
    have hall' : ∀ i, i < 10 → ℓ i = true := hall
    obtain ⟨V, hcV, htV, rfl⟩ := hr.la (hall' 8 (by decide))
    obtain rfl := hr.f0 (hall' 0 (by decide))
    obtain rfl := hr.f1 (hall' 1 (by decide))
    obtain rfl := hr.f2 (hall' 2 (by decide))
    obtain rfl := hr.f3 (hall' 3 (by decide))
    obtain rfl := hr.f4 (hall' 4 (by decide))
    obtain rfl := hr.f5 (hall' 5 (by decide))
    obtain ⟨yy6, rfl, hyy6⟩ := hr.f6 (hall' 6 (by decide))
    obtain ⟨yf7, ef7, rfl⟩ := hr.f7 (hall' 7 (by decide))
    cases ef7
    obtain ⟨yf9, ef9, rfl⟩ := hr.f9 (hall' 9 (by decide))
    cases ef9
    clear hr hall hall'
    simp only [Act.put, List.setIfInBounds_toArray, List.set_cons_zero, List.set_cons_succ]
    have HP9 : Hid (PN w V B a zs cap VB lo t ad) := HPN.out.turn HPB.out hcV htV
    have HF : Hid _ := ds_fin HP9.out HPB.out HTW.out HTS.out HCP.out HP2.out
    have HWY : Hid (IntKind.i64.wrap (yy6 - 1) = yy6 - 1) := by
      have := HSN.out
      show _ = _
      rw [IntKind.wrap_i64]; omega
    rw [HWY.out]
    have hy := hyy6
    clear HP9 HPN HCU0 HBW hcV htV hyy6
    go_wp2
    refine bodyPost_ret (v := .tuple #[tbV t ad, .int .i64 (yy6 - 1)]) (res_l23 HF.out.2.2.1 rfl rfl rfl) rfl ?_
    exact ⟨t, ad, yy6 - 1, rfl, HF.out.2.2.2.1, by omega, by omega, HF.out.2.2.2.2⟩
  · intro ℓ a' w' i o hI ho hi hL hdep K hK
    obtain ⟨x10, x11, x12, x13, x14, x15, x16, x17, x3, rfl, hr⟩ := hI
    have hi7 : i < 10 := hi
    have hcs : i = 0 ∨ i = 1 ∨ i = 2 ∨ i = 3 ∨ i = 4 ∨ i = 5 ∨ i = 6 ∨ i = 7 ∨ i = 8 ∨ i = 9 := by omega
    clear hi hi7
    rcases hcs with rfl | rfl | rfl | rfl | rfl | rfl | rfl | rfl | rfl | rfl
    · replace ho : some ({ dst := some 10, op := .load 33 (.tmp 5), type := 33, pos := "l23_plan.go:120", after := #[], guard := none } : Oper) = some o := ho
      revert hK
      obtain rfl := Option.some.inj ho
      clear hdep ho
      have hlS : ℓ 8 = false := by
        cases h7 : ℓ 8
        · rfl
        · have := (hr.cl h7).1; rw [this] at hL; cases hL
      have hc := hr.cu hlS
      have ht := hr.tu hlS
      intro hK
      rw [if_pos (by rfl)]
      try simp only [Act.put, List.setIfInBounds_toArray, List.set_cons_zero, List.set_cons_succ]
      refine wp_load_row (P := Tryz.prog) 33 (.tmp 5) rfl VB rfl 33 (tbA t ad) (0, 0) _ ((HPN.out.turn HPB.out hc ht).rv) Tryz.underlying33 rfl (by kernel_rfl) ?_
      exact hK.out _ _ (fun j => if j = 0 then true else ℓ j) ⟨(tbV t ad), x11, x12, x13, x14, x15, x16, x17, x3, (by first | (simp only [Act.put, List.setIfInBounds_toArray, List.set_cons_zero, List.set_cons_succ]; done) | (simp only [Act.put, List.setIfInBounds_toArray, List.set_cons_zero, List.set_cons_succ]; rfl)), ⟨hr.cu, hr.tu, (fun g7 => absurd (hlS.symm.trans g7) Bool.false_ne_true), (fun g7 => absurd (hlS.symm.trans g7) Bool.false_ne_true), hr.k3, hr.k4, hr.k5, hr.k6, hr.k7, hr.k9, (fun _ => rfl), hr.f1, hr.f2, hr.f3, hr.f4, hr.f5, hr.f6, hr.f7, hr.f9⟩⟩ (if_pos rfl) (fun j hj => if_neg hj)
    · revert hK
      obtain rfl := Option.some.inj ho
      clear hdep ho
      have hlS : ℓ 8 = false := by
        cases h7 : ℓ 8
        · rfl
        · have := (hr.cl h7).2.1; rw [this] at hL; cases hL
      have hc := hr.cu hlS
      have ht := hr.tu hlS
      intro hK
      rw [if_pos (by rfl)]
      try simp only [Act.put, List.setIfInBounds_toArray, List.set_cons_zero, List.set_cons_succ]
      go_simp
      exact hK.out _ _ (fun j => if j = 1 then true else ℓ j) ⟨x10, (.pointer (some ⟨B, 0, none⟩)), x12, x13, x14, x15, x16, x17, x3, (by first | (simp only [Act.put, List.setIfInBounds_toArray, List.set_cons_zero, List.set_cons_succ]; done) | (simp only [Act.put, List.setIfInBounds_toArray, List.set_cons_zero, List.set_cons_succ]; rfl)), ⟨hr.cu, hr.tu, (fun g7 => absurd (hlS.symm.trans g7) Bool.false_ne_true), (fun g7 => absurd (hlS.symm.trans g7) Bool.false_ne_true), hr.k3, hr.k4, hr.k5, (fun g7 => ⟨rfl, (hr.k6 g7).2.1, trivial⟩), hr.k7, hr.k9, hr.f0, (fun _ => rfl), hr.f2, hr.f3, hr.f4, hr.f5, hr.f6, hr.f7, hr.f9⟩⟩ (if_pos rfl) (fun j hj => if_neg hj)
    · revert hK
      obtain rfl := Option.some.inj ho
      clear hdep ho
      have hlS : ℓ 8 = false := by
        cases h7 : ℓ 8
        · rfl
        · have := (hr.cl h7).2.2.1; rw [this] at hL; cases hL
      have hc := hr.cu hlS
      have ht := hr.tu hlS
      intro hK
      rw [if_pos (by rfl)]
      try simp only [Act.put, List.setIfInBounds_toArray, List.set_cons_zero, List.set_cons_succ]
      go_simp
      exact hK.out _ _ (fun j => if j = 2 then true else ℓ j) ⟨x10, x11, (.pointer (some ⟨VB, 18, none⟩)), x13, x14, x15, x16, x17, x3, (by first | (simp only [Act.put, List.setIfInBounds_toArray, List.set_cons_zero, List.set_cons_succ]; done) | (simp only [Act.put, List.setIfInBounds_toArray, List.set_cons_zero, List.set_cons_succ]; rfl)), ⟨hr.cu, hr.tu, (fun g7 => absurd (hlS.symm.trans g7) Bool.false_ne_true), (fun g7 => absurd (hlS.symm.trans g7) Bool.false_ne_true), (fun g7 => ⟨rfl, trivial⟩), hr.k4, hr.k5, hr.k6, hr.k7, hr.k9, hr.f0, hr.f1, (fun _ => rfl), hr.f3, hr.f4, hr.f5, hr.f6, hr.f7, hr.f9⟩⟩ (if_pos rfl) (fun j hj => if_neg hj)
    · revert hK
      obtain rfl := Option.some.inj ho
      have g2 : ℓ 2 = true := hdep { on := 2, ground := Ground.data } (by simp) rfl
      clear hdep ho
      have hlS : ℓ 8 = false := by
        cases h7 : ℓ 8
        · rfl
        · have := (hr.cl h7).2.2.2.1; rw [this] at hL; cases hL
      have hc := hr.cu hlS
      have ht := hr.tu hlS
      obtain rfl := hr.f2 g2
      intro hK
      rw [if_pos (by rfl)]
      try simp only [Act.put, List.setIfInBounds_toArray, List.set_cons_zero, List.set_cons_succ]
      have cc := (show w'.cell? ⟨VB, 18, none⟩ = some (.slice ad.sa ad.sn ad.sc) from (HPN.out.turn HPB.out hc ht).rv.cell 18 rfl)
      go_simp
      exact hK.out _ _ (fun j => if j = 3 then true else ℓ j) ⟨x10, x11, (.pointer (some ⟨VB, 18, none⟩)), (.slice ad.sa ad.sn ad.sc), x14, x15, x16, x17, x3, (by first | (simp only [Act.put, List.setIfInBounds_toArray, List.set_cons_zero, List.set_cons_succ]; done) | (simp only [Act.put, List.setIfInBounds_toArray, List.set_cons_zero, List.set_cons_succ]; rfl)), ⟨hr.cu, hr.tu, (fun g7 => absurd (hlS.symm.trans g7) Bool.false_ne_true), (fun g7 => absurd (hlS.symm.trans g7) Bool.false_ne_true), (fun _ => ⟨g2, trivial⟩), (fun g7 => ⟨rfl, trivial⟩), hr.k5, hr.k6, hr.k7, hr.k9, hr.f0, hr.f1, hr.f2, (fun _ => rfl), hr.f4, hr.f5, hr.f6, hr.f7, hr.f9⟩⟩ (if_pos rfl) (fun j hj => if_neg hj)
    · revert hK
      obtain rfl := Option.some.inj ho
      have g3 : ℓ 3 = true := hdep { on := 3, ground := Ground.data } (by simp) rfl
      clear hdep ho
      have hlS : ℓ 8 = false := by
        cases h7 : ℓ 8
        · rfl
        · have := (hr.cl h7).2.2.2.2.1; rw [this] at hL; cases hL
      have hc := hr.cu hlS
      have ht := hr.tu hlS
      obtain rfl := hr.f3 g3
      intro hK
      rw [if_pos (by rfl)]
      try simp only [Act.put, List.setIfInBounds_toArray, List.set_cons_zero, List.set_cons_succ]
      go_simp
      exact hK.out _ _ (fun j => if j = 4 then true else ℓ j) ⟨x10, x11, x12, (.slice ad.sa ad.sn ad.sc), (.int .i64 (ad.sn : Int)), x15, x16, x17, x3, (by first | (simp only [Act.put, List.setIfInBounds_toArray, List.set_cons_zero, List.set_cons_succ]; done) | (simp only [Act.put, List.setIfInBounds_toArray, List.set_cons_zero, List.set_cons_succ]; rfl)), ⟨hr.cu, hr.tu, (fun g7 => absurd (hlS.symm.trans g7) Bool.false_ne_true), (fun g7 => absurd (hlS.symm.trans g7) Bool.false_ne_true), hr.k3, (fun _ => ⟨g3, trivial⟩), (fun g7 => ⟨rfl, trivial⟩), hr.k6, hr.k7, hr.k9, hr.f0, hr.f1, hr.f2, hr.f3, (fun _ => rfl), hr.f5, hr.f6, hr.f7, hr.f9⟩⟩ (if_pos rfl) (fun j hj => if_neg hj)
    · revert hK
      obtain rfl := Option.some.inj ho
      have g4 : ℓ 4 = true := hdep { on := 4, ground := Ground.data } (by simp) rfl
      clear hdep ho
      have hlS : ℓ 8 = false := by
        cases h7 : ℓ 8
        · rfl
        · have := (hr.cl h7).2.2.2.2.2.1; rw [this] at hL; cases hL
      have hc := hr.cu hlS
      have ht := hr.tu hlS
      obtain rfl := hr.f4 g4
      intro hK
      rw [if_pos (by rfl)]
      try simp only [Act.put, List.setIfInBounds_toArray, List.set_cons_zero, List.set_cons_succ]
      have hwr := HWR.out
      go_simp
      exact hK.out _ _ (fun j => if j = 5 then true else ℓ j) ⟨x10, x11, x12, x13, (.int .i64 (ad.sn : Int)), (.int .i64 ((ad.sn : Int) + 2)), x16, x17, x3, (by first | (simp only [Act.put, List.setIfInBounds_toArray, List.set_cons_zero, List.set_cons_succ]; done) | (simp only [Act.put, List.setIfInBounds_toArray, List.set_cons_zero, List.set_cons_succ]; rfl)), ⟨hr.cu, hr.tu, (fun g7 => absurd (hlS.symm.trans g7) Bool.false_ne_true), (fun g7 => absurd (hlS.symm.trans g7) Bool.false_ne_true), hr.k3, hr.k4, (fun _ => ⟨g4, trivial⟩), (fun g7 => ⟨(hr.k6 g7).1, rfl, trivial⟩), hr.k7, hr.k9, hr.f0, hr.f1, hr.f2, hr.f3, hr.f4, (fun _ => rfl), hr.f6, hr.f7, hr.f9⟩⟩ (if_pos rfl) (fun j hj => if_neg hj)
    · revert hK
      obtain rfl := Option.some.inj ho
      have g1 : ℓ 1 = true := hdep { on := 1, ground := Ground.data } (by simp) rfl
      have g5 : ℓ 5 = true := hdep { on := 5, ground := Ground.data } (by simp) rfl
      clear hdep ho
      have hlS : ℓ 8 = false := by
        cases h7 : ℓ 8
        · rfl
        · have := (hr.cl h7).2.2.2.2.2.2.1; rw [this] at hL; cases hL
      have hc := hr.cu hlS
      have ht := hr.tu hlS
      obtain rfl := hr.f1 g1
      obtain rfl := hr.f5 g5
      intro hK
      rw [if_pos (by rfl)]
      try simp only [Act.put, List.setIfInBounds_toArray, List.set_cons_zero, List.set_cons_succ]
      go_simp
      refine (draw_below w' B a zs cap ((ad.sn : Int) + 2) hc (by have := HSN.out; omega) (by have := HSN.out; omega)).mono ?_
      rintro e w9 ⟨y, rfl, hy0, hy1, hc9, ht9⟩
      have hyy := And.intro hy0 hy1
      exact hK.out _ _ (fun j => if j = 6 then true else ℓ j) ⟨x10, (.pointer (some ⟨B, 0, none⟩)), x12, x13, x14, (.int .i64 ((ad.sn : Int) + 2)), (.int .i64 y), x17, x3, (by first | (simp only [Act.put, List.setIfInBounds_toArray, List.set_cons_zero, List.set_cons_succ]; done) | (simp only [Act.put, List.setIfInBounds_toArray, List.set_cons_zero, List.set_cons_succ]; rfl)), ⟨(fun _ => hc9), (fun _ => ht.trans ht9), (fun g7 => absurd (hlS.symm.trans g7) Bool.false_ne_true), (fun g7 => absurd (hlS.symm.trans g7) Bool.false_ne_true), hr.k3, hr.k4, hr.k5, (fun _ => ⟨g1, g5, trivial⟩), (fun g7 => ⟨rfl, trivial⟩), hr.k9, hr.f0, hr.f1, hr.f2, hr.f3, hr.f4, hr.f5, (fun _ => ⟨y, rfl, hyy⟩), (fun g7 => absurd (hL.symm.trans ((hr.k7 g7).1)) Bool.false_ne_true), (fun g7 => absurd (hL.symm.trans ((hr.k7 ((hr.k9 g7).1)).1)) Bool.false_ne_true)⟩⟩ (if_pos rfl) (fun j hj => if_neg hj)
    · revert hK
      obtain rfl := Option.some.inj ho
      have g6 : ℓ 6 = true := hdep { on := 6, ground := Ground.data } (by simp) rfl
      clear hdep ho
      obtain ⟨y, rfl, hyy⟩ := hr.f6 g6
      intro hK
      rw [if_pos (by rfl)]
      try simp only [Act.put, List.setIfInBounds_toArray, List.set_cons_zero, List.set_cons_succ]
      go_simp
      exact hK.out _ _ (fun j => if j = 7 then true else ℓ j) ⟨x10, x11, x12, x13, x14, x15, (.int .i64 y), (.int .i64 (IntKind.i64.wrap (y - 1))), x3, (by first | (simp only [Act.put, List.setIfInBounds_toArray, List.set_cons_zero, List.set_cons_succ]; done) | (simp only [Act.put, List.setIfInBounds_toArray, List.set_cons_zero, List.set_cons_succ]; rfl)), ⟨hr.cu, hr.tu, hr.cl, hr.la, hr.k3, hr.k4, hr.k5, hr.k6, (fun _ => ⟨g6, trivial⟩), (fun g7 => ⟨rfl, trivial⟩), hr.f0, hr.f1, hr.f2, hr.f3, hr.f4, hr.f5, hr.f6, (fun _ => ⟨y, rfl, rfl⟩), hr.f9⟩⟩ (if_pos rfl) (fun j hj => if_neg hj)
    · replace ho : some ({ dst := none, op := Op.store 33 (Operand.tmp 2) (Operand.tmp 10), type := 0, pos := "l23_plan.go:120", after := #[{ on := 0, ground := Ground.data }, { on := 6, ground := Ground.chain }, { on := 0, ground := Ground.phase }, { on := 1, ground := Ground.textOnly Departure.lateStores }, { on := 2, ground := Ground.textOnly Departure.lateStores }, { on := 3, ground := Ground.textOnly Departure.lateStores }, { on := 4, ground := Ground.textOnly Departure.lateStoresUnsure }, { on := 5, ground := Ground.textOnly Departure.lateStores }, { on := 6, ground := Ground.textOnly Departure.lateStoresUnsure }, { on := 7, ground := Ground.textOnly Departure.lateStores }], guard := none } : Oper) = some o := ho
      revert hK
      obtain rfl := Option.some.inj ho
      have g0 : ℓ 0 = true := hdep { on := 0, ground := Ground.data } (by simp) rfl
      have g6 : ℓ 6 = true := hdep { on := 6, ground := Ground.chain } (by simp) rfl
      clear hdep ho
      have hc := hr.cu hL
      have ht := hr.tu hL
      have g1 : ℓ 1 = true := (hr.k6 g6).1
      have g5 : ℓ 5 = true := (hr.k6 g6).2.1
      have g4 : ℓ 4 = true := (hr.k5 g5).1
      have g3 : ℓ 3 = true := (hr.k4 g4).1
      have g2 : ℓ 2 = true := (hr.k3 g3).1
      obtain rfl := hr.f0 g0
      intro hK
      rw [if_pos (by rfl)]
      try simp only [Act.put, List.setIfInBounds_toArray, List.set_cons_zero, List.set_cons_succ]
      refine wp_store_row (P := Tryz.prog) 33 (.tmp 2) (.tmp 10) rfl w.heap.size (tbA t ad) rfl rfl 33 (#[.int .i64 0, .int .i64 0, .int .i64 0, .int .i64 0, .int .i64 0, .int .i64 0, .int .i64 0, .int .i64 0, .int .i64 0, .int .i64 0, .int .i64 0, .int .i64 0, .int .i64 0, .int .i64 0, .int .i64 0, .slice none 0 0, .slice none 0 0, .slice none 0 0, .slice none 0 0]) ((HPN.out.turn HPB.out hc ht).r0) (by kernel_rfl) rfl (by simp [Value.oneCell']) ?_
      exact hK.out _ _ (fun j => if j = 8 then true else ℓ j) ⟨(tbV t ad), x11, x12, x13, x14, x15, x16, x17, x3, (by first | (simp only [Act.put, List.setIfInBounds_toArray, List.set_cons_zero, List.set_cons_succ]; done) | (simp only [Act.put, List.setIfInBounds_toArray, List.set_cons_zero, List.set_cons_succ]; rfl)), ⟨(fun g => by cases g), (fun g => by cases g), (fun _ => ⟨g0, g1, g2, g3, g4, g5, g6, trivial⟩), (fun _ => ⟨w', hc, ht, rfl⟩), hr.k3, hr.k4, hr.k5, hr.k6, hr.k7, hr.k9, hr.f0, hr.f1, hr.f2, hr.f3, hr.f4, hr.f5, hr.f6, hr.f7, hr.f9⟩⟩ (if_pos rfl) (fun j hj => if_neg hj)
    · revert hK
      obtain rfl := Option.some.inj ho
      have g7 : ℓ 7 = true := hdep { on := 7, ground := Ground.data } (by simp) rfl
      clear hdep ho
      obtain ⟨y, ey, rfl⟩ := hr.f7 g7
      obtain rfl := ey
      intro hK
      rw [if_pos (by rfl)]
      try simp only [Act.put, List.setIfInBounds_toArray, List.set_cons_zero, List.set_cons_succ]
      go_simp
      exact hK.out _ _ (fun j => if j = 9 then true else ℓ j) ⟨x10, x11, x12, x13, x14, x15, (.int .i64 y), (.int .i64 (IntKind.i64.wrap (y - 1))), (.int .i64 (IntKind.i64.wrap (y - 1))), (by first | (simp only [Act.put, List.setIfInBounds_toArray, List.set_cons_zero, List.set_cons_succ]; done) | (simp only [Act.put, List.setIfInBounds_toArray, List.set_cons_zero, List.set_cons_succ]; rfl)), ⟨hr.cu, hr.tu, hr.cl, hr.la, hr.k3, hr.k4, hr.k5, hr.k6, hr.k7, (fun _ => ⟨g7, trivial⟩), hr.f0, hr.f1, hr.f2, hr.f3, hr.f4, hr.f5, hr.f6, hr.f7, (fun _ => ⟨y, rfl, rfl⟩)⟩⟩ (if_pos rfl) (fun j hj => if_neg hj)
  · rintro a' w' ℓ ℓ' hℓ hI
    rw [← show ℓ = ℓ' from funext hℓ]
    exact hI
end Go.Proofs.YtlomcdgfcocmmaaGreatDoor
namespace Go.Proofs.YtlomcdgfcocmmaaGreatDoor
open Go.ChangeShapes Go.WideShapes Go.ChangeAt Go.RowKit Go.Deep Go.Joins
set_option linter.unusedVariables false

theorem byte_info' : ∃ i, Tryz.prog.info? 5 = some i ∧ i.zero = some (.int .u8 0) ∧ i.size = 1 ∧ i.bytes = 1 := by
  obtain ⟨i, hi, he⟩ := Option.map_eq_some_iff.1 (show (Tryz.prog.info? 5).map (fun i => (i.zero, i.size, i.bytes)) = some (some (.int .u8 0), 1, 1) by kernel_rfl)
  simp only [Prod.mk.injEq] at he
  exact ⟨i, hi, he.1, he.2.1, he.2.2⟩
/-- A list of one byte, and bytes appended to it. -/
theorem wpList_app1 {ops : Array Oper} {rest : List Oper} {o : Oper} {a : Act} {Q : Exit → Act → World → Prop} (hgd : o.guard = none) (s x : Operand)
    (ho : o.op = .call { callee := .builtin .append, args := #[s, x], argTypes := #[22, 22] }) (w : World) (LB : Nat) (hB : w.heap[LB]? = some (.cells #[.int .u8 1] 5 (0, 0)))
    (hs : a.eval s = .slice (some ⟨LB, 0, none⟩) 1 1) (ca : Option Addr) (zs : List Int) (n cap : Nat) (hx : a.eval x = .slice ca n cap) (hl : zs.length = n) (hseg : Seg .u8 w ca zs) (hlen : n ≤ 1048576)
    (h : ∀ g c' w', Seg .u8 w' (some ⟨g, 0, none⟩) (1 :: zs) → LB ≤ g → Below LB w w' → wpList Tryz.prog ops Q rest (a.put o.dst (.slice (some ⟨g, 0, none⟩) (1 :: zs).length c')) w') : wpList Tryz.prog ops Q (o :: rest) a w := by
  have hlt : LB < w.heap.size := by
    rcases Nat.lt_or_ge LB w.heap.size with h1 | h1
    · exact h1
    · rw [Array.getElem?_eq_none h1] at hB; cases hB
  obtain ⟨iU, hi, hz, hsz, hby⟩ := byte_info'
  refine wpList_plain hgd fun K hK => ?_
  by_cases h0 : 0 < n
  · obtain ⟨b, off, rfl, hbl, hc⟩ := hseg (by omega)
    have hown : w.ownsRow LB 5 1 (.slice (some ⟨LB, 0, none⟩) 1 1) 1 [.int .u8 1] := ⟨rfl, .inr ⟨LB, 1, #[.int .u8 1], rfl, Nat.le_refl _, hB, Nat.le_refl _, by unfold maxLen; omega, rfl, rfl⟩⟩
    have hnews : ∀ (j : Nat) (u : Value), (zs.map (Value.int .u8))[j]? = some u → w.cell? ((⟨b, off, none⟩ : Addr).add j) = some u := fun j u hu => by
      have hj : j < zs.length := by
        have := (List.getElem?_eq_some_iff.1 hu).1
        simpa using this
      have hadd : (⟨b, off, none⟩ : Addr).add j = ⟨b, off + j, none⟩ := by unfold Addr.add; split <;> simp_all
      rw [hadd, hc j hj, ← hu, List.getElem?_map, List.getElem?_eq_getElem hj, List.getD_eq_getElem?_getD, List.getElem?_eq_getElem hj]
      rfl
    refine wp_append_lies w s x 22 ho LB 5 iU (.int .u8 0) 1 1 Tryz.underlying22 hi hz hsz hby rfl (by omega) (.slice (some ⟨LB, 0, none⟩) 1 1) 1 [.int .u8 1] hs hown ⟨b, off, none⟩ n cap (zs.map (Value.int .u8)) hx (by simp [hl]) hnews (fun u hu => by obtain ⟨_, _, rfl⟩ := List.mem_map.1 hu; rfl) h0 (by unfold maxLen; omega) (by omega) (Nat.le_of_lt hlt) _ rfl fun g c' w' h1 h2 _ h4 => ?_
    have e : 1 + n = (1 :: zs).length := by rw [List.length_cons, hl]; omega
    rw [e] at h1 ⊢
    refine hK _ _ (h g c' w' (fun _ => ?_) (h1.lt g rfl).1 (grown_below h2 (fun k e2 => by cases e2; exact Nat.le_refl _) (Nat.le_of_lt hlt)))
    obtain ⟨_, h3 | ⟨g', c2, cur, e3, _, hh, _, _, hcs, htk⟩⟩ := h1
    · cases h3.1
    cases e3
    refine ⟨g, 0, rfl, h4, fun i hi2 => ?_⟩
    have hcell : w'.cell? ⟨g, 0 + i, none⟩ = cur[i]? := by rw [Nat.zero_add]; simp [World.cell?, hh]
    have hl2 : ([Value.int .u8 1] ++ zs.map (Value.int .u8)) = (1 :: zs).map (Value.int .u8) := rfl
    rw [hl2, Nat.mul_one] at htk
    have : cur.toList[i]? = some (.int .u8 ((1 :: zs).getD i 0)) := by
      have h5 : (cur.toList.take (1 :: zs).length)[i]? = cur.toList[i]? := by rw [List.getElem?_take, if_pos hi2]
      rw [← h5, htk, List.getElem?_map, List.getElem?_eq_getElem hi2, List.getD_eq_getElem?_getD, List.getElem?_eq_getElem hi2]
      rfl
    rw [hcell, ← this]
    simp
  · obtain rfl : n = 0 := by omega
    obtain rfl : zs = [] := List.eq_nil_of_length_eq_zero hl
    have hsrc : Src Tryz.prog iU.size 22 (.slice ca 0 cap) 0 [] w := by
      cases ca with
      | none => exact Src.ofNil w Tryz.underlying22 cap
      | some ad => exact Src.ofSlice w Tryz.underlying22 ad 0 cap [] (by simp) (fun j u hu => by simp at hu) (fun u hu => by cases hu)
    have hr := run_append_room_src (P := Tryz.prog) w 22 22 o.type 5 iU Tryz.underlying22 hi LB 0 1 1 (.slice ca 0 cap) 0 [] hsrc (Nat.le_refl _) (fun j hj => absurd hj (Nat.not_lt_zero _)) (fun j hj => absurd hj (Nat.not_lt_zero _))
    have hK2 := hK _ _ (h LB 1 w (fun _ => ⟨LB, 0, rfl, hlt, fun i hi2 => by
      obtain rfl : i = 0 := by simp at hi2; exact hi2
      show w.cell? ⟨LB, 0 + 0, none⟩ = _
      simp [World.cell?, hB]⟩) (Nat.le_refl _) (Below.refl _ _))
    unfold Oper.wp execOp
    simp only [ho, resolve, invoke, builtin, Sem.run_bind, Sem.run_pure, Result.andThen_ok, List.map_toArray, List.map_cons, List.map_nil, hs, hx, hr]
    exact hK2
/-- Tables in their own box, room for the answer, and a cursor behind them. -/
structure SN (w X : World) (B : Nat) (a : Option Addr) (zs : List Int) (cap VB lo : Nat) (T : Tb) (A : Ad) : Prop where
  cu : Cur X B a zs cap
  bw : Below w.heap.size w X
  r0 : RV X w.heap.size (#[.int .i64 0, .int .i64 0, .int .i64 0, .int .i64 0, .int .i64 0, .int .i64 0, .int .i64 0, .int .i64 0, .int .i64 0, .int .i64 0, .int .i64 0, .int .i64 0, .int .i64 0, .int .i64 0, .int .i64 0, .slice none 0 0, .slice none 0 0, .slice none 0 0, .slice none 0 0])
  rv : RV X VB (tbA T A)
  o : OU lo X T A
/-- Where they lie. -/
structure SB (w : World) (B : Nat) (a : Option Addr) (zs : List Int) (VB lo : Nat) (A : Ad) : Prop where
  l : w.heap.size < lo
  v : w.heap.size < VB
  b : VB < B
  n : ∀ k, InL A k → k < VB
  la : ∀ b off, a = some ⟨b, off, none⟩ → 0 < zs.length → VB < b
theorem SN.turn {w X : World} {B : Nat} {a : Option Addr} {zs : List Int} {cap VB lo : Nat} {T : Tb} {A : Ad} {Y : World} (h : SN w X B a zs cap VB lo T A) (g : SB w B a zs VB lo A) (hc : Cur Y B a zs cap) (ht : Turn B X Y) : SN w Y B a zs cap VB lo T A :=
  ⟨hc, h.bw.trans (ht.below (by have := g.b; have := g.v; omega) h.bw.size), h.r0.turn ht (by have := g.b; have := g.v; omega), h.rv.turn ht (by have := g.b; omega), h.o.keep ht.size (fun k hk => ht.block k (h.o.inl hk).2 (by have := g.n k hk; have := g.b; omega))⟩
theorem SN.num {w X : World} {B : Nat} {a : Option Addr} {zs : List Int} {cap VB lo : Nat} {T : Tb} {A : Ad} {T' : Tb} (h : SN w X B a zs cap VB lo T A) (g : SB w B a zs VB lo A) (j : Nat) (v : Value) (e : (tbA T A).setIfInBounds j v = tbA T' A) (h1 : T'.ps = T.ps) (h2 : T'.ds = T.ds) (h3 : T'.cs = T.cs) (h4 : T'.ss = T.ss) : SN w (X.setCell ⟨VB, j, none⟩ v) B a zs cap VB lo T' A :=
  ⟨cur_far h.cu VB j v (by have := g.b; omega) (fun b off e h0 => by have := g.la b off e h0; omega), h.bw.setCell (p := ⟨VB, j, none⟩) (by have := g.v; show w.heap.size ≤ VB; omega) v, h.r0.other (by have := g.v; omega), h.rv.set j v e, (h.o.keep (by simp) (fun k hk => heap_far _ _ _ _ (by have := g.n k hk; omega))).nums h1 h2 h3 h4⟩
theorem SN.slot {w X : World} {B : Nat} {a : Option Addr} {zs : List Int} {cap VB lo : Nat} {T : Tb} {A : Ad} (h : SN w X B a zs cap VB lo T A) (g : SB w B a zs VB lo A) (hl : T.ss.length = A.sn) (i j : Nat) (hi : i < A.sn) (hj : j < 3) (v : Value) (x' : slT) (hx : slL x' = (slL (T.ss.getD i sl0)).set j v) (q : Nat) (hq : A.sa = some ⟨q, 0, none⟩) :
    (∀ m u, (slL (T.ss.getD i sl0))[m]? = some u → X.cell? ⟨q, i * 3 + m, none⟩ = some u) ∧ X.frozen? ⟨q, i * 3 + j, none⟩ = false ∧ SN w (X.setCell ⟨q, i * 3 + j, none⟩ v) B a zs cap VB lo { T with ss := T.ss.set i x' } A := by
  obtain ⟨q', e, h1, h2, h3, h4, h5, h6⟩ := h.o.set_s hl i j hi hj v x' hx
  rw [hq] at e
  cases e
  have hqv := g.n q h5
  exact ⟨h4, h3 _, cur_far h.cu q _ v (by have := g.b; omega) (fun b off e h0 => by have := g.la b off e h0; omega), h.bw.setCell (p := ⟨q, _, none⟩) (by have := g.l; show w.heap.size ≤ q; omega) v, h.r0.other (by have := g.l; omega), h.rv.other (by omega), h6⟩
theorem tw_slot {T : Tb} {A : Ad} (h : TW T A) (i : Nat) (hi : i < A.sn) (x' : slT) (hx : x'.2.1 = (T.ss.getD i sl0).2.1) : TW { T with ss := T.ss.set i x' } A := by
  refine ⟨h.pl, h.dl, h.cl, (List.length_set ..).trans h.sl, h.pb, h.db, h.cb, h.sb, h.wb, h.wf, fun m hm => ?_⟩
  have hb := h.sf m hm
  show ((T.ss.set i x').getD m sl0).2.1 ≤ _ ∧ _ ≤ ((T.ss.set i x').getD m sl0).2.1
  by_cases em : m = i
  · subst em
    have hl := h.sl
    have eg : (T.ss.set m x').getD m sl0 = x' := by rw [List.getD_eq_getElem?_getD, List.getElem?_set, if_pos rfl, if_pos (by omega)]; rfl
    rw [eg, hx]
    exact hb
  · have eg : (T.ss.set i x').getD m sl0 = T.ss.getD m sl0 := by rw [List.getD_eq_getElem?_getD, List.getElem?_set, if_neg (fun e2 => em e2.symm), ← List.getD_eq_getElem?_getD]
    rw [eg]
    exact hb
theorem ss_fin {w X : World} {B : Nat} {a : Option Addr} {zs : List Int} {cap VB lo : Nat} {T : Tb} {A : Ad} (h9 : SN w X B a zs cap VB lo T A) (gp : SB w B a zs VB lo A) (htw : TW T A) (hts : TS A) (hcp : A.pn ≤ A.pc ∧ A.sn ≤ A.sc) (hp : 2 ≤ A.pn ∧ A.pn ≤ 4) :
    RV X VB (tbA T A) ∧ RV X w.heap.size (#[.int .i64 0, .int .i64 0, .int .i64 0, .int .i64 0, .int .i64 0, .int .i64 0, .int .i64 0, .int .i64 0, .int .i64 0, .int .i64 0, .int .i64 0, .int .i64 0, .int .i64 0, .int .i64 0, .int .i64 0, .slice none 0 0, .slice none 0 0, .slice none 0 0, .slice none 0 0]) ∧ (World.setRow X w.heap.size (tbA T A)).heap[w.heap.size]? = some (.cells (tbA T A) 33 (0, 0)) ∧ DSp w.heap.size (World.setRow X w.heap.size (tbA T A)) T A ∧ Below w.heap.size w (World.setRow X w.heap.size (tbA T A)) := by
  have ho := h9.o.keep (X := World.setRow X w.heap.size (tbA T A)) (by rw [setRow_size]; exact Nat.le_refl _) (fun k hk => setRow_other _ _ _ _ (by have := (h9.o.inl hk).1; have := gp.l; omega))
  exact ⟨h9.rv, h9.r0, setRow_heap _ _ _ _ _ _ h9.r0, ⟨ho.tm, ⟨lo, by have := gp.l; omega, ho⟩, htw, hts, hcp.1, hcp.2, hp⟩, below_setRow h9.bw (Nat.le_refl _) _⟩
theorem res_spl {W : World} {B : Nat} {cs : Array Value} {v u : Value} {tmps : Array Value} (h : W.heap[B]? = some (.cells cs 33 (0, 0))) (hl : cs.size = 19) (ht : tmps[2]? = some (.pointer (some ⟨B, 0, none⟩))) (hq : tmps[3]? = some v) (hr : tmps[4]? = some u) : (results Tryz.f8 tmps).run Tryz.prog W = .ok (.tuple #[.agg cs, v, u]) W := by
  have hld : (loadVar 33 ⟨B, 0, none⟩).run Tryz.prog W = .ok (.agg cs) W := run_loadVar_row (P := Tryz.prog) W B 33 33 cs (0, 0) _ h Tryz.underlying33 rfl (by rw [hl]; kernel_rfl)
  unfold results
  rw [Tryz.results8]
  simp [ht, hq, hr, asAddr, hld]
theorem wrap_in (x : Int) : -9223372036854775808 ≤ IntKind.i64.wrap x ∧ IntKind.i64.wrap x ≤ 9223372036854775807 := by
  rw [IntKind.wrap_i64]; omega
structure SR4 (W0 : World) (B : Nat) (a : Option Addr) (zs : List Int) (cap : Nat) (w : World) (t : Tb) (ad : Ad) (VB : Nat) (pg : Int) (w' : World) (b0 b1 b2 b3 b4 b5 b6 b7 b8 : Bool) (x23 x24 x25 x26 x27 x28 x29 x30 x8 : Value) : Prop where
  cu : Cur w' B a zs cap
  tu : Turn B W0 w'
  k7 : b7 = true → b4 = true ∧ b6 = true ∧ True
  k8 : b8 = true → b7 = true ∧ True
  f0 : b0 = true → x23 = .pointer (some ⟨VB, 12, none⟩)
  f1 : b1 = true → x24 = .int .i64 t.pad
  f2 : b2 = true → x25 = .pointer (some ⟨VB, 13, none⟩)
  f3 : b3 = true → x26 = .int .i64 t.grd
  f4 : b4 = true → x27 = .int .i64 pg
  f5 : b5 = true → x28 = .pointer (some ⟨B, 0, none⟩)
  f6 : b6 = true → ∃ y : Int, x29 = .int .i64 y ∧ (0 ≤ y ∧ y < 60)
  f7 : b7 = true → ∃ y : Int, x29 = .int .i64 y ∧ x30 = .int .i64 (IntKind.i64.wrap (pg + y))
  f8 : b8 = true → ∃ y : Int, x29 = .int .i64 y ∧ x8 = .int .i64 (IntKind.i64.wrap (pg + y))
structure SR8 (W0 : World) (B : Nat) (a : Option Addr) (zs : List Int) (cap : Nat) (P : Addr) (VB : Nat) (ad : Ad) (g : Nat) (li : Nat) (x3 : Int) (ln : Int) (w' : World) (b0 b1 b2 b3 b4 b5 b6 b7 b8 b9 b10 b11 b12 : Bool) (x43 x44 x45 x46 x47 x48 x49 x50 x51 x52 x53 x54 : Value) : Prop where
  cl : b12 = true → b0 = true ∧ b1 = true ∧ b2 = true ∧ b3 = true ∧ b4 = true ∧ b5 = true ∧ b6 = true ∧ b7 = true ∧ b8 = true ∧ b9 = true ∧ b10 = true ∧ b11 = true ∧ True
  cu : b12 = false → Cur w' B a zs cap
  tu : b12 = false → Turn B W0 w'
  la : b12 = true → ∃ V, Cur V B a zs cap ∧ Turn B W0 V ∧ w' = V.setCell P x52
  k11 : b11 = true → b10 = true ∧ True
  f0 : b0 = true → x43 = .pointer (some ⟨VB, 18, none⟩)
  f1 : b1 = true → x44 = .slice (some ⟨g, 0, none⟩) ad.sn ad.sc
  f2 : b2 = true → x45 = .int .i64 (li : Int)
  f3 : b3 = true → x46 = .pointer (some ⟨VB, 18, none⟩)
  f4 : b4 = true → x47 = .slice (some ⟨g, 0, none⟩) ad.sn ad.sc
  f5 : b5 = true → x48 = .int .i64 (li : Int)
  f6 : b6 = true → x49 = .pointer (some ⟨g, li * 3, none⟩)
  f7 : b7 = true → x50 = .pointer (some ⟨g, li * 3 + 2, none⟩)
  f8 : b8 = true → x51 = .int .i64 x3
  f9 : b9 = true → x52 = .int .i64 ln
  f10 : b10 = true → x53 = .pointer (some ⟨g, li * 3, none⟩)
  f11 : b11 = true → x54 = .pointer (some ⟨g, li * 3 + 2, none⟩)
structure SR9 (W0 : World) (B : Nat) (a : Option Addr) (zs : List Int) (cap : Nat) (w : World) (u : Tb) (ad : Ad) (VB : Nat) (pg : Int) (pg1 : Int) (w' : World) (b0 b1 b2 b3 b4 b5 b6 b7 b8 b9 : Bool) (x55 x56 x57 x58 x59 x60 x61 x62 x63 x8 : Value) : Prop where
  cu : Cur w' B a zs cap
  tu : Turn B W0 w'
  k8 : b8 = true → b5 = true ∧ b7 = true ∧ True
  k9 : b9 = true → b8 = true ∧ True
  f0 : b0 = true → x55 = .pointer (some ⟨VB, 12, none⟩)
  f1 : b1 = true → x56 = .int .i64 u.pad
  f2 : b2 = true → x57 = .pointer (some ⟨VB, 13, none⟩)
  f3 : b3 = true → x58 = .int .i64 u.grd
  f4 : b4 = true → x59 = .int .i64 pg
  f5 : b5 = true → x60 = .int .i64 pg1
  f6 : b6 = true → x61 = .pointer (some ⟨B, 0, none⟩)
  f7 : b7 = true → ∃ y : Int, x62 = .int .i64 y ∧ (0 ≤ y ∧ y < 150)
  f8 : b8 = true → ∃ y : Int, x62 = .int .i64 y ∧ x63 = .int .i64 (IntKind.i64.wrap (pg1 + y))
  f9 : b9 = true → ∃ y : Int, x62 = .int .i64 y ∧ x8 = .int .i64 (IntKind.i64.wrap (pg1 + y))
set_option maxRecDepth 40000 in
set_option maxHeartbeats 16000000 in
theorem draw_split (w : World) (a : Option Addr) (zs : List Int) (cap n : Nat) (hs : Seg .u8 w a zs) (hb : ∀ z ∈ zs, (Lit.int .u8 z).wf = true) (hl : zs.length = n) (hn : n ≤ 1048576) :
    Calls Tryz.prog 8 #[.slice a n cap] w fun e w' => ∃ T A x f, e = .returned (.tuple #[tbV T A, .int .i64 x, .int .i64 f]) ∧ DSp w.heap.size w' T A ∧ (-9223372036854775808 ≤ f ∧ f ≤ 9223372036854775807) ∧ Below w.heap.size w w' := by
  have HB0 : Hid (Below w.heap.size w (w.alloc (.cells #[.int .i64 0, .int .i64 0, .int .i64 0, .int .i64 0, .int .i64 0, .int .i64 0, .int .i64 0, .int .i64 0, .int .i64 0, .int .i64 0, .int .i64 0, .int .i64 0, .int .i64 0, .int .i64 0, .int .i64 0, .slice none 0 0, .slice none 0 0, .slice none 0 0, .slice none 0 0] 33))) := (Below.refl _ _).alloc (Nat.le_refl _) _
  have HR0 : Hid (RV (w.alloc (.cells #[.int .i64 0, .int .i64 0, .int .i64 0, .int .i64 0, .int .i64 0, .int .i64 0, .int .i64 0, .int .i64 0, .int .i64 0, .int .i64 0, .int .i64 0, .int .i64 0, .int .i64 0, .int .i64 0, .int .i64 0, .slice none 0 0, .slice none 0 0, .slice none 0 0, .slice none 0 0] 33)) w.heap.size #[.int .i64 0, .int .i64 0, .int .i64 0, .int .i64 0, .int .i64 0, .int .i64 0, .int .i64 0, .int .i64 0, .int .i64 0, .int .i64 0, .int .i64 0, .int .i64 0, .int .i64 0, .int .i64 0, .int .i64 0, .slice none 0 0, .slice none 0 0, .slice none 0 0, .slice none 0 0]) := new_row w _ _ _ rfl
  have HD : Hid _ := draw_slot (w.alloc (.cells #[.int .i64 0, .int .i64 0, .int .i64 0, .int .i64 0, .int .i64 0, .int .i64 0, .int .i64 0, .int .i64 0, .int .i64 0, .int .i64 0, .int .i64 0, .int .i64 0, .int .i64 0, .int .i64 0, .int .i64 0, .slice none 0 0, .slice none 0 0, .slice none 0 0, .slice none 0 0] 33)) a zs cap n (hs.below HB0.out) hb hl hn
  have HSG : Hid (∀ X, Below w.heap.size w X → Seg .u8 X a zs) := fun X hX => hs.below hX
  have HBY : Hid (∀ z ∈ 1 :: zs, (Lit.int .u8 z).wf = true) := fun z hz => by
    rcases List.mem_cons.1 hz with rfl | hz
    · rfl
    · exact hb z hz
  have HLN : Hid (zs.length = n ∧ n ≤ 1048576) := ⟨hl, hn⟩
  clear hs hb hl hn
  go_enter Tryz.func8, Tryz.ntmps8
  go_wp2_with fail
  refine Calls.mono HD.out ?_
  rintro e w1 ⟨t0, ad, i, rfl, hd, hi0, hi1, hb1⟩
  clear hi0 hi1
  have hsz : (w.alloc (.cells #[.int .i64 0, .int .i64 0, .int .i64 0, .int .i64 0, .int .i64 0, .int .i64 0, .int .i64 0, .int .i64 0, .int .i64 0, .int .i64 0, .int .i64 0, .int .i64 0, .int .i64 0, .int .i64 0, .int .i64 0, .slice none 0 0, .slice none 0 0, .slice none 0 0, .slice none 0 0] 33)).heap.size = w.heap.size + 1 := by simp
  have HB1 : Hid (Below w.heap.size w w1) := HB0.out.trans (hb1.mono HB0.out.size)
  have HR1 : Hid (RV w1 w.heap.size #[.int .i64 0, .int .i64 0, .int .i64 0, .int .i64 0, .int .i64 0, .int .i64 0, .int .i64 0, .int .i64 0, .int .i64 0, .int .i64 0, .int .i64 0, .int .i64 0, .int .i64 0, .int .i64 0, .int .i64 0, .slice none 0 0, .slice none 0 0, .slice none 0 0, .slice none 0 0]) := HR0.out.below hb1 (by rw [hsz]; exact Nat.lt_succ_self _)
  have hw1 : w.heap.size < w1.heap.size := by have := hb1.size; omega
  obtain ⟨lo, hlo, ho⟩ := hd.o
  rw [hsz] at hlo
  have HDD : Hid (DSp (w.alloc (.cells #[.int .i64 0, .int .i64 0, .int .i64 0, .int .i64 0, .int .i64 0, .int .i64 0, .int .i64 0, .int .i64 0, .int .i64 0, .int .i64 0, .int .i64 0, .int .i64 0, .int .i64 0, .int .i64 0, .int .i64 0, .slice none 0 0, .slice none 0 0, .slice none 0 0, .slice none 0 0] 33)).heap.size w1 t0 ad) := hd
  have HO1 : Hid (OU lo w1 t0 ad) := ho
  have HLO : Hid (w.heap.size < lo) := hlo
  have HW1 : Hid (w.heap.size < w1.heap.size) := hw1
  have HNR : Hid (RV (w1.alloc (.cells #[.int .i64 0, .int .i64 0, .int .i64 0, .int .i64 0, .int .i64 0, .int .i64 0, .int .i64 0, .int .i64 0, .int .i64 0, .int .i64 0, .int .i64 0, .int .i64 0, .int .i64 0, .int .i64 0, .int .i64 0, .slice none 0 0, .slice none 0 0, .slice none 0 0, .slice none 0 0] 33)) w1.heap.size (#[.int .i64 0, .int .i64 0, .int .i64 0, .int .i64 0, .int .i64 0, .int .i64 0, .int .i64 0, .int .i64 0, .int .i64 0, .int .i64 0, .int .i64 0, .int .i64 0, .int .i64 0, .int .i64 0, .int .i64 0, .slice none 0 0, .slice none 0 0, .slice none 0 0, .slice none 0 0])) := new_row w1 _ _ _ rfl
  have HBV : Hid (Below w1.heap.size w1 ((w1.alloc (.cells #[.int .i64 0, .int .i64 0, .int .i64 0, .int .i64 0, .int .i64 0, .int .i64 0, .int .i64 0, .int .i64 0, .int .i64 0, .int .i64 0, .int .i64 0, .int .i64 0, .int .i64 0, .int .i64 0, .int .i64 0, .slice none 0 0, .slice none 0 0, .slice none 0 0, .slice none 0 0] 33)).setRow w1.heap.size (tbA t0 ad))) := below_setRow ((Below.refl _ _).alloc (Nat.le_refl _) _) (Nat.le_refl _) _
  have HRV : Hid (RV ((w1.alloc (.cells #[.int .i64 0, .int .i64 0, .int .i64 0, .int .i64 0, .int .i64 0, .int .i64 0, .int .i64 0, .int .i64 0, .int .i64 0, .int .i64 0, .int .i64 0, .int .i64 0, .int .i64 0, .int .i64 0, .int .i64 0, .slice none 0 0, .slice none 0 0, .slice none 0 0, .slice none 0 0] 33)).setRow w1.heap.size (tbA t0 ad)) w1.heap.size (tbA t0 ad)) := setRow_heap _ _ _ _ _ _ HNR.out
  have hsz2 : ((w1.alloc (.cells #[.int .i64 0, .int .i64 0, .int .i64 0, .int .i64 0, .int .i64 0, .int .i64 0, .int .i64 0, .int .i64 0, .int .i64 0, .int .i64 0, .int .i64 0, .int .i64 0, .int .i64 0, .int .i64 0, .int .i64 0, .slice none 0 0, .slice none 0 0, .slice none 0 0, .slice none 0 0] 33)).setRow w1.heap.size (tbA t0 ad)).heap.size = w1.heap.size + 1 := by rw [setRow_size]; simp
  obtain ⟨w2, HV2⟩ : ∃ w2, Hid (w2 = (w1.alloc (.cells #[.int .i64 0, .int .i64 0, .int .i64 0, .int .i64 0, .int .i64 0, .int .i64 0, .int .i64 0, .int .i64 0, .int .i64 0, .int .i64 0, .int .i64 0, .int .i64 0, .int .i64 0, .int .i64 0, .int .i64 0, .slice none 0 0, .slice none 0 0, .slice none 0 0, .slice none 0 0] 33)).setRow w1.heap.size (tbA t0 ad)) := ⟨_, rfl⟩
  rw [← HV2.out] at HBV HRV hsz2
  have HS2 : Hid (w2.heap.size = w1.heap.size + 1) := hsz2
  have HLB : Hid ((w2.alloc (.cells #[.int .u8 1] 5)).heap[w2.heap.size]? = some (.cells #[.int .u8 1] 5 (0, 0))) := new_row w2 _ _ _ rfl
  have HB2 : Hid (Below w.heap.size w (w2.alloc (.cells #[.int .u8 1] 5))) := (HB1.out.trans (HBV.out.mono HB1.out.size)).trans (((Below.refl _ _).alloc (Nat.le_refl _) _).mono (Nat.le_trans HB1.out.size HBV.out.size))
  clear hd hb1 hsz hw1 hlo ho hsz2 HB0 HR0 HD
  go_wp2_with (first | (refine wpList_store_row rfl 33 (.tmp 5) (.tmp 13) rfl w1.heap.size (tbA t0 ad) rfl rfl 33 (#[.int .i64 0, .int .i64 0, .int .i64 0, .int .i64 0, .int .i64 0, .int .i64 0, .int .i64 0, .int .i64 0, .int .i64 0, .int .i64 0, .int .i64 0, .int .i64 0, .int .i64 0, .int .i64 0, .int .i64 0, .slice none 0 0, .slice none 0 0, .slice none 0 0, .slice none 0 0]) HNR.out (by kernel_rfl) rfl (by simp [Value.oneCell']) ?_; rw [← HV2.out]) | (at_builtin; refine wpList_app1 rfl (.tmp 15) (.tmp 16) rfl _ w2.heap.size HLB.out rfl a zs n cap rfl HLN.out.1 (HSG.out _ HB2.out) HLN.out.2 ?_; intro g c1 w3 hsg3 hg3 hbw3) | fail)
  have hlen : (1 :: zs).length ≤ 1048577 := by have := HLN.out; simp only [List.length_cons]; omega
  refine Calls.mono (draw_new w3 (some ⟨g, 0, none⟩) (1 :: zs) c1 hsg3 HBY.out hlen) ?_
  rintro e w4 ⟨rfl, hc4, hb4⟩
  have hB23 : Below w2.heap.size w2 w3 := ((Below.refl _ _).alloc (Nat.le_refl _) _).trans hbw3
  have hB24 : Below w2.heap.size w2 w4 := hB23.trans (hb4.mono hB23.size)
  have hB14 : Below w1.heap.size w1 w4 := HBV.out.trans (hB24.mono HBV.out.size)
  have HPB : Hid (SB w w3.heap.size (some ⟨g, 0, none⟩) (1 :: zs) w1.heap.size lo ad) := ⟨HLO.out, HW1.out, by have := hB23.size; have := HS2.out; omega, fun k hk => (HO1.out.inl hk).2, fun b off e _ => by cases e; have := HS2.out; omega⟩
  have HPN : Hid (SN w w4 w3.heap.size (some ⟨g, 0, none⟩) (1 :: zs) c1 w1.heap.size lo t0 ad) := ⟨hc4, HB1.out.trans (hB14.mono HB1.out.size), HR1.out.below hB14 HW1.out, HRV.out.below hB24 (by have := HS2.out; omega), HO1.out.keep hB14.size (fun k hk => hB14.block k (HO1.out.inl hk).2)⟩
  have HTS : Hid (TS ad) := HDD.out.s
  have HCP : Hid (ad.pn ≤ ad.pc ∧ ad.sn ≤ ad.sc) := ⟨HDD.out.c1, HDD.out.c2⟩
  have HP2 : Hid (2 ≤ ad.pn ∧ ad.pn ≤ 4) := HDD.out.p
  have HTW0 : Hid (TW t0 ad) := HDD.out.w
  clear hsg3 hg3 hbw3 hc4 hb4 hB23 hB24 hB14 hlen HO1 HLO HNR HBV HRV HV2 HS2 HLB HB2 HDD HB1 HR1 HSG HBY HLN HW1
  revert HPB HPN
  generalize w3.heap.size = B
  generalize w1.heap.size = VB
  generalize (some (⟨g, 0, none⟩ : Addr)) = a
  generalize (1 :: zs) = zs
  generalize c1 = cap
  intro HPB HPN
  obtain ⟨mj, HMJ⟩ : ∃ v, Hid (IntKind.i64.wrap (t0.maj + 700) = v) := ⟨_, rfl⟩
  have c14 : w4.cell? ⟨VB, 14, none⟩ = some (.int .i64 t0.maj) := HPN.out.rv.cell 14 rfl
  have f14 : w4.frozen? ⟨VB, 14, none⟩ = false := HPN.out.rv.free 14
  have hmj := HMJ.out
  go_wp2_with fail
  have HP3 : Hid (SN w (w4.setCell ⟨VB, 14, none⟩ (.int .i64 mj)) B a zs cap VB lo { t0 with maj := mj } ad) := HPN.out.num HPB.out 14 _ (by simp) rfl rfl rfl rfl
  clear HPN HMJ hmj c14 f14
  obtain ⟨t, HT0⟩ : ∃ T : Tb, Hid ({ t0 with maj := mj } = T) := ⟨_, rfl⟩
  have HTW : Hid (TW t ad) := by show TW t ad; rw [← HT0.out]; exact HTW0.out.nums rfl rfl rfl rfl
  rw [HT0.out] at HP3
  clear HTW0 HT0
  revert HP3
  generalize (w4.setCell ⟨VB, 14, none⟩ (.int .i64 mj)) = w5
  intro HPN
  have HCU0 : Hid (Cur w5 B a zs cap) := HPN.out.cu
  have HBW : Hid (B < w5.heap.size) := HPN.out.cu.lt
  obtain ⟨pg, HPG⟩ : ∃ v, Hid (IntKind.i64.wrap (t.pad + t.grd) = v) := ⟨_, rfl⟩
  refine wp_region_inv (by kernel_rfl) (by kernel_rfl) (fun AC ℓ a' w' => ∃ (x23 x24 x25 x26 x27 x28 x29 x30 x8 : Value), a' = (((((((((AC.put (some 23) x23).put (some 24) x24).put (some 25) x25).put (some 26) x26).put (some 27) x27).put (some 28) x28).put (some 29) x29).put (some 30) x30).put (some 8) x8) ∧ SR4 (w5) B a zs cap (w) (t) (ad) (VB) (pg)  w' (ℓ 0) (ℓ 1) (ℓ 2) (ℓ 3) (ℓ 4) (ℓ 5) (ℓ 6) (ℓ 7) (ℓ 8) x23 x24 x25 x26 x27 x28 x29 x30 x8) ?_ ?_ ?_ ?_
  · exact ⟨undef, undef, undef, undef, undef, undef, undef, undef, undef, (by simp only [Act.put, List.setIfInBounds_toArray, List.set_cons_zero, List.set_cons_succ]), ⟨(HCU0.out.drewN 1), ((Turn.refl _ _).drewN 1), (fun g => by cases g), (fun g => by cases g), (fun g => by cases g), (fun g => by cases g), (fun g => by cases g), (fun g => by cases g), (fun g => by cases g), (fun g => by cases g), (fun g => by cases g), (fun g => by cases g), (fun g => by cases g)⟩⟩
  · intro ℓ a' w' hI hall
    obtain ⟨x23, x24, x25, x26, x27, x28, x29, x30, x8, rfl, hr⟩ := hI
    have hall' : ∀ i, i < 9 → ℓ i = true := hall
    have hcV := hr.cu
    have htV := hr.tu
    obtain rfl := hr.f0 (hall' 0 (by decide))
    obtain rfl := hr.f1 (hall' 1 (by decide))
    obtain rfl := hr.f2 (hall' 2 (by decide))
    obtain rfl := hr.f3 (hall' 3 (by decide))
    obtain rfl := hr.f4 (hall' 4 (by decide))
    obtain rfl := hr.f5 (hall' 5 (by decide))
    obtain ⟨yy6, rfl, hyy6⟩ := hr.f6 (hall' 6 (by decide))
    obtain ⟨yf7, ef7, rfl⟩ := hr.f7 (hall' 7 (by decide))
    cases ef7
    obtain ⟨yf8, ef8, rfl⟩ := hr.f8 (hall' 8 (by decide))
    cases ef8
    clear hr hall hall'
    simp only [Act.put, List.setIfInBounds_toArray, List.set_cons_zero, List.set_cons_succ]
    have HP4 : Hid (SN w w' B a zs cap VB lo t ad) := HPN.out.turn HPB.out hcV htV
    have HFB0 : Hid _ := wrap_in (pg + yy6)
    clear HPN HCU0 HBW hcV htV hyy6
    generalize IntKind.i64.wrap (pg + yy6) = f1 at HFB0 ⊢
    generalize w' = w5 at HP4 ⊢
    have HSN : Hid (ad.sn ≤ 1048576) := HTS.out.s
    by_cases hz : ad.sn = 0
    · have c18 : w5.cell? ⟨VB, 18, none⟩ = some (.slice ad.sa ad.sn ad.sc) := HP4.out.rv.cell 18 rfl
      rw [hz] at c18
      have HFB := HFB0
      clear hz HFB0
      have HF : Hid _ := ss_fin HP4.out HPB.out HTW.out HTS.out HCP.out HP2.out
      go_wp2_with (first | (refine wpList_load_row rfl 33 (.tmp 5) rfl VB rfl 33 (tbA t ad) (0, 0) _ HF.out.1 Tryz.underlying33 rfl (by kernel_rfl) ?_) | (refine wpList_store_row rfl 33 (.tmp 2) (.tmp 64) rfl w.heap.size (tbA t ad) rfl rfl 33 (#[.int .i64 0, .int .i64 0, .int .i64 0, .int .i64 0, .int .i64 0, .int .i64 0, .int .i64 0, .int .i64 0, .int .i64 0, .int .i64 0, .int .i64 0, .int .i64 0, .int .i64 0, .int .i64 0, .int .i64 0, .slice none 0 0, .slice none 0 0, .slice none 0 0, .slice none 0 0]) HF.out.2.1 (by kernel_rfl) rfl (by simp [Value.oneCell']) ?_) | fail)
      refine bodyPost_ret (v := .tuple #[tbV t ad, .int .i64 (i), .int .i64 (f1)]) (res_spl HF.out.2.2.1 rfl rfl rfl rfl) rfl ?_
      exact ⟨t, ad, i, f1, rfl, HF.out.2.2.2.1, HFB.out, HF.out.2.2.2.2⟩
    obtain ⟨li, hl1⟩ : ∃ li : Nat, ad.sn = li + 1 := ⟨ad.sn - 1, by omega⟩
    have c18 : w5.cell? ⟨VB, 18, none⟩ = some (.slice ad.sa ad.sn ad.sc) := HP4.out.rv.cell 18 rfl
    have hls : IntKind.i64.wrap ((ad.sn : Int) - 1) = (li : Int) := by have := HSN.out; rw [IntKind.wrap_i64]; omega
    have hge : (0 : Int) ≤ (li : Int) := by omega
    have HLI : Hid ((li : Int) < (ad.sn : Int)) := by show _ < _; omega
    clear hz hl1
    go_wp2_with fail
    refine (draw_once _ B a zs cap 4 HP4.out.cu (by omega) (by omega)).mono ?_
    rintro e w6 ⟨q, rfl, hc, ht⟩
    have HPN : Hid (SN w w6 B a zs cap VB lo t ad) := HP4.out.turn HPB.out hc ht
    clear HP4 hc ht c18 hls hge
    cases q
    rotate_left
    · have HFB := HFB0
      clear HFB0
      have HF : Hid _ := ss_fin HPN.out HPB.out HTW.out HTS.out HCP.out HP2.out
      go_wp2_with (first | (refine wpList_load_row rfl 33 (.tmp 5) rfl VB rfl 33 (tbA t ad) (0, 0) _ HF.out.1 Tryz.underlying33 rfl (by kernel_rfl) ?_) | (refine wpList_store_row rfl 33 (.tmp 2) (.tmp 64) rfl w.heap.size (tbA t ad) rfl rfl 33 (#[.int .i64 0, .int .i64 0, .int .i64 0, .int .i64 0, .int .i64 0, .int .i64 0, .int .i64 0, .int .i64 0, .int .i64 0, .int .i64 0, .int .i64 0, .int .i64 0, .int .i64 0, .int .i64 0, .int .i64 0, .slice none 0 0, .slice none 0 0, .slice none 0 0, .slice none 0 0]) HF.out.2.1 (by kernel_rfl) rfl (by simp [Value.oneCell']) ?_) | fail)
      refine bodyPost_ret (v := .tuple #[tbV t ad, .int .i64 (i), .int .i64 (f1)]) (res_spl HF.out.2.2.1 rfl rfl rfl rfl) rfl ?_
      exact ⟨t, ad, i, f1, rfl, HF.out.2.2.2.1, HFB.out, HF.out.2.2.2.2⟩
    have HCU0 : Hid (Cur w6 B a zs cap) := HPN.out.cu
    have HBW : Hid (B < w6.heap.size) := HPN.out.cu.lt
    obtain ⟨g, HSA⟩ : ∃ g, Hid (ad.sa = some ⟨g, 0, none⟩) := by
      obtain ⟨g, e, _⟩ := HPN.out.o.set_s HTW.out.sl li 2 (by have := HLI.out; omega) (by omega) (.int .i64 0) ((t.ss.getD li sl0).1, (t.ss.getD li sl0).2.1, 0) rfl
      exact ⟨g, e⟩
    obtain ⟨x3, HX3⟩ : ∃ v, Hid ((t.ss.getD li sl0).2.2 = v) := ⟨_, rfl⟩
    obtain ⟨ln, HLN⟩ : ∃ v, Hid (IntKind.i64.wrap (x3 + 600) = v) := ⟨_, rfl⟩
    obtain ⟨u, HU⟩ : ∃ u : Tb, Hid ({ t with ss := t.ss.set li ((t.ss.getD li sl0).1, (t.ss.getD li sl0).2.1, ln) } = u) := ⟨_, rfl⟩
    have HTU : Hid (TW u ad) := by show TW u ad; rw [← HU.out]; exact tw_slot HTW.out li (by have := HLI.out; omega) _ rfl
    have HSX : Hid (∀ X, SN w X B a zs cap VB lo t ad → X.cell? ⟨g, li * 3 + 2, none⟩ = some (.int .i64 x3) ∧ X.frozen? ⟨g, li * 3 + 2, none⟩ = false ∧ SN w (X.setCell ⟨g, li * 3 + 2, none⟩ (.int .i64 ln)) B a zs cap VB lo u ad) := fun X hX => by
      obtain ⟨h1, h2, h3⟩ := hX.slot HPB.out HTW.out.sl li 2 (by have := HLI.out; omega) (by omega) (.int .i64 ln) ((t.ss.getD li sl0).1, (t.ss.getD li sl0).2.1, ln) rfl g HSA.out
      rw [HU.out] at h3
      exact ⟨by rw [h1 2 _ rfl, HX3.out], h2, h3⟩
    have HPU : Hid (u.pad = t.pad ∧ u.grd = t.grd) := by show _ ∧ _; rw [← HU.out]; exact ⟨rfl, rfl⟩
    obtain ⟨pg, HPG⟩ : ∃ v, Hid (IntKind.i64.wrap (u.pad + u.grd) = v) := ⟨_, rfl⟩
    obtain ⟨pg1, HPG1⟩ : ∃ v, Hid (IntKind.i64.wrap (pg + 1) = v) := ⟨_, rfl⟩
    clear HX3 HU HPU
    go_wp2_with fail
    refine wp_region_inv (by kernel_rfl) (by kernel_rfl) (fun AC ℓ a' w' => ∃ (x43 x44 x45 x46 x47 x48 x49 x50 x51 x52 x53 x54 : Value), a' = ((((((((((((AC.put (some 43) x43).put (some 44) x44).put (some 45) x45).put (some 46) x46).put (some 47) x47).put (some 48) x48).put (some 49) x49).put (some 50) x50).put (some 51) x51).put (some 52) x52).put (some 53) x53).put (some 54) x54) ∧ SR8 (w6) B a zs cap (⟨g, li * 3 + 2, none⟩) VB ad g li x3 ln w' (ℓ 0) (ℓ 1) (ℓ 2) (ℓ 3) (ℓ 4) (ℓ 5) (ℓ 6) (ℓ 7) (ℓ 8) (ℓ 9) (ℓ 10) (ℓ 11) (ℓ 12) x43 x44 x45 x46 x47 x48 x49 x50 x51 x52 x53 x54) ?_ ?_ ?_ ?_
    · exact ⟨undef, undef, undef, undef, undef, undef, undef, undef, undef, undef, undef, undef, (by simp only [Act.put, List.setIfInBounds_toArray, List.set_cons_zero, List.set_cons_succ]), ⟨(fun g => by cases g), (fun _ => HCU0.out.drewN 1), (fun _ => (Turn.refl _ _).drewN 1), (fun g => by cases g), (fun g => by cases g), (fun g => by cases g), (fun g => by cases g), (fun g => by cases g), (fun g => by cases g), (fun g => by cases g), (fun g => by cases g), (fun g => by cases g), (fun g => by cases g), (fun g => by cases g), (fun g => by cases g), (fun g => by cases g), (fun g => by cases g)⟩⟩
    · intro ℓ a' w' hI hall
      obtain ⟨x43, x44, x45, x46, x47, x48, x49, x50, x51, x52, x53, x54, rfl, hr⟩ := hI
      have hall' : ∀ i, i < 13 → ℓ i = true := hall
      obtain ⟨V, hcV, htV, rfl⟩ := hr.la (hall' 12 (by decide))
      obtain rfl := hr.f0 (hall' 0 (by decide))
      obtain rfl := hr.f1 (hall' 1 (by decide))
      obtain rfl := hr.f2 (hall' 2 (by decide))
      obtain rfl := hr.f3 (hall' 3 (by decide))
      obtain rfl := hr.f4 (hall' 4 (by decide))
      obtain rfl := hr.f5 (hall' 5 (by decide))
      obtain rfl := hr.f6 (hall' 6 (by decide))
      obtain rfl := hr.f7 (hall' 7 (by decide))
      obtain rfl := hr.f8 (hall' 8 (by decide))
      obtain rfl := hr.f9 (hall' 9 (by decide))
      obtain rfl := hr.f10 (hall' 10 (by decide))
      obtain rfl := hr.f11 (hall' 11 (by decide))
      clear hr hall hall'
      simp only [Act.put, List.setIfInBounds_toArray, List.set_cons_zero, List.set_cons_succ]
      obtain ⟨_, _, hsn⟩ := HSX.out _ (HPN.out.turn HPB.out hcV htV)
      clear HPN HCU0 HBW hcV htV HSX HFB0
      have HPN : Hid (SN w (V.setCell ⟨g, li * 3 + 2, none⟩ (.int .i64 ln)) B a zs cap VB lo u ad) := hsn
      clear hsn
      revert HPN
      generalize (V.setCell ⟨g, li * 3 + 2, none⟩ (.int .i64 ln)) = w7
      intro HPN
      have HCU0 : Hid (Cur w7 B a zs cap) := HPN.out.cu
      have HBW : Hid (B < w7.heap.size) := HPN.out.cu.lt
      go_wp2_with fail
      refine wp_region_inv (by kernel_rfl) (by kernel_rfl) (fun AC ℓ a' w' => ∃ (x55 x56 x57 x58 x59 x60 x61 x62 x63 x8 : Value), a' = ((((((((((AC.put (some 55) x55).put (some 56) x56).put (some 57) x57).put (some 58) x58).put (some 59) x59).put (some 60) x60).put (some 61) x61).put (some 62) x62).put (some 63) x63).put (some 8) x8) ∧ SR9 (w7) B a zs cap (w) (u) (ad) (VB) (pg) (pg1)  w' (ℓ 0) (ℓ 1) (ℓ 2) (ℓ 3) (ℓ 4) (ℓ 5) (ℓ 6) (ℓ 7) (ℓ 8) (ℓ 9) x55 x56 x57 x58 x59 x60 x61 x62 x63 x8) ?_ ?_ ?_ ?_
      · exact ⟨undef, undef, undef, undef, undef, undef, undef, undef, undef, (.int .i64 f1), (by simp only [Act.put, List.setIfInBounds_toArray, List.set_cons_zero, List.set_cons_succ]), ⟨(HCU0.out.drewN 1), ((Turn.refl _ _).drewN 1), (fun g => by cases g), (fun g => by cases g), (fun g => by cases g), (fun g => by cases g), (fun g => by cases g), (fun g => by cases g), (fun g => by cases g), (fun g => by cases g), (fun g => by cases g), (fun g => by cases g), (fun g => by cases g), (fun g => by cases g)⟩⟩
      · intro ℓ a' w' hI hall
        obtain ⟨x55, x56, x57, x58, x59, x60, x61, x62, x63, x8, rfl, hr⟩ := hI
        have hall' : ∀ i, i < 10 → ℓ i = true := hall
        have hcV := hr.cu
        have htV := hr.tu
        obtain rfl := hr.f0 (hall' 0 (by decide))
        obtain rfl := hr.f1 (hall' 1 (by decide))
        obtain rfl := hr.f2 (hall' 2 (by decide))
        obtain rfl := hr.f3 (hall' 3 (by decide))
        obtain rfl := hr.f4 (hall' 4 (by decide))
        obtain rfl := hr.f5 (hall' 5 (by decide))
        obtain rfl := hr.f6 (hall' 6 (by decide))
        obtain ⟨yy7, rfl, hyy7⟩ := hr.f7 (hall' 7 (by decide))
        obtain ⟨yf8, ef8, rfl⟩ := hr.f8 (hall' 8 (by decide))
        cases ef8
        obtain ⟨yf9, ef9, rfl⟩ := hr.f9 (hall' 9 (by decide))
        cases ef9
        clear hr hall hall'
        simp only [Act.put, List.setIfInBounds_toArray, List.set_cons_zero, List.set_cons_succ]
        have HP9 : Hid (SN w w' B a zs cap VB lo u ad) := HPN.out.turn HPB.out hcV htV
        have HFB : Hid _ := wrap_in (pg1 + yy7)
        clear HPN HCU0 HBW hcV htV hyy7
        generalize IntKind.i64.wrap (pg1 + yy7) = f2 at HFB ⊢
        have HF : Hid _ := ss_fin HP9.out HPB.out HTU.out HTS.out HCP.out HP2.out
        go_wp2_with (first | (refine wpList_load_row rfl 33 (.tmp 5) rfl VB rfl 33 (tbA u ad) (0, 0) _ HF.out.1 Tryz.underlying33 rfl (by kernel_rfl) ?_) | (refine wpList_store_row rfl 33 (.tmp 2) (.tmp 64) rfl w.heap.size (tbA u ad) rfl rfl 33 (#[.int .i64 0, .int .i64 0, .int .i64 0, .int .i64 0, .int .i64 0, .int .i64 0, .int .i64 0, .int .i64 0, .int .i64 0, .int .i64 0, .int .i64 0, .int .i64 0, .int .i64 0, .int .i64 0, .int .i64 0, .slice none 0 0, .slice none 0 0, .slice none 0 0, .slice none 0 0]) HF.out.2.1 (by kernel_rfl) rfl (by simp [Value.oneCell']) ?_) | fail)
        refine bodyPost_ret (v := .tuple #[tbV u ad, .int .i64 ((li : Int)), .int .i64 (f2)]) (res_spl HF.out.2.2.1 rfl rfl rfl rfl) rfl ?_
        exact ⟨u, ad, (li : Int), f2, rfl, HF.out.2.2.2.1, HFB.out, HF.out.2.2.2.2⟩
      · intro ℓ a' w' i o hI ho hi hL hdep K hK
        obtain ⟨x55, x56, x57, x58, x59, x60, x61, x62, x63, x8, rfl, hr⟩ := hI
        have hi7 : i < 10 := hi
        have hcs : i = 0 ∨ i = 1 ∨ i = 2 ∨ i = 3 ∨ i = 4 ∨ i = 5 ∨ i = 6 ∨ i = 7 ∨ i = 8 ∨ i = 9 := by omega
        clear hi hi7
        rcases hcs with rfl | rfl | rfl | rfl | rfl | rfl | rfl | rfl | rfl | rfl
        · revert hK
          obtain rfl := Option.some.inj ho
          clear hdep ho
          have hc := hr.cu
          have ht := hr.tu
          intro hK
          rw [if_pos (by rfl)]
          try simp only [Act.put, List.setIfInBounds_toArray, List.set_cons_zero, List.set_cons_succ]
          go_simp
          exact hK.out _ _ (fun j => if j = 0 then true else ℓ j) ⟨(.pointer (some ⟨VB, 12, none⟩)), x56, x57, x58, x59, x60, x61, x62, x63, x8, (by first | (simp only [Act.put, List.setIfInBounds_toArray, List.set_cons_zero, List.set_cons_succ]; done) | (simp only [Act.put, List.setIfInBounds_toArray, List.set_cons_zero, List.set_cons_succ]; rfl)), ⟨hr.cu, hr.tu, hr.k8, hr.k9, (fun _ => rfl), hr.f1, hr.f2, hr.f3, hr.f4, hr.f5, hr.f6, hr.f7, hr.f8, hr.f9⟩⟩ (if_pos rfl) (fun j hj => if_neg hj)
        · revert hK
          obtain rfl := Option.some.inj ho
          have g0 : ℓ 0 = true := hdep { on := 0, ground := Ground.data } (by simp) rfl
          clear hdep ho
          have hc := hr.cu
          have ht := hr.tu
          obtain rfl := hr.f0 g0
          intro hK
          rw [if_pos (by rfl)]
          try simp only [Act.put, List.setIfInBounds_toArray, List.set_cons_zero, List.set_cons_succ]
          have cc := (show w'.cell? ⟨VB, 12, none⟩ = some (.int .i64 u.pad) from (HPN.out.turn HPB.out hc ht).rv.cell 12 rfl)
          go_simp
          exact hK.out _ _ (fun j => if j = 1 then true else ℓ j) ⟨(.pointer (some ⟨VB, 12, none⟩)), (.int .i64 u.pad), x57, x58, x59, x60, x61, x62, x63, x8, (by first | (simp only [Act.put, List.setIfInBounds_toArray, List.set_cons_zero, List.set_cons_succ]; done) | (simp only [Act.put, List.setIfInBounds_toArray, List.set_cons_zero, List.set_cons_succ]; rfl)), ⟨hr.cu, hr.tu, hr.k8, hr.k9, hr.f0, (fun _ => rfl), hr.f2, hr.f3, hr.f4, hr.f5, hr.f6, hr.f7, hr.f8, hr.f9⟩⟩ (if_pos rfl) (fun j hj => if_neg hj)
        · revert hK
          obtain rfl := Option.some.inj ho
          clear hdep ho
          have hc := hr.cu
          have ht := hr.tu
          intro hK
          rw [if_pos (by rfl)]
          try simp only [Act.put, List.setIfInBounds_toArray, List.set_cons_zero, List.set_cons_succ]
          go_simp
          exact hK.out _ _ (fun j => if j = 2 then true else ℓ j) ⟨x55, x56, (.pointer (some ⟨VB, 13, none⟩)), x58, x59, x60, x61, x62, x63, x8, (by first | (simp only [Act.put, List.setIfInBounds_toArray, List.set_cons_zero, List.set_cons_succ]; done) | (simp only [Act.put, List.setIfInBounds_toArray, List.set_cons_zero, List.set_cons_succ]; rfl)), ⟨hr.cu, hr.tu, hr.k8, hr.k9, hr.f0, hr.f1, (fun _ => rfl), hr.f3, hr.f4, hr.f5, hr.f6, hr.f7, hr.f8, hr.f9⟩⟩ (if_pos rfl) (fun j hj => if_neg hj)
        · revert hK
          obtain rfl := Option.some.inj ho
          have g2 : ℓ 2 = true := hdep { on := 2, ground := Ground.data } (by simp) rfl
          clear hdep ho
          have hc := hr.cu
          have ht := hr.tu
          obtain rfl := hr.f2 g2
          intro hK
          rw [if_pos (by rfl)]
          try simp only [Act.put, List.setIfInBounds_toArray, List.set_cons_zero, List.set_cons_succ]
          have cc := (show w'.cell? ⟨VB, 13, none⟩ = some (.int .i64 u.grd) from (HPN.out.turn HPB.out hc ht).rv.cell 13 rfl)
          go_simp
          exact hK.out _ _ (fun j => if j = 3 then true else ℓ j) ⟨x55, x56, (.pointer (some ⟨VB, 13, none⟩)), (.int .i64 u.grd), x59, x60, x61, x62, x63, x8, (by first | (simp only [Act.put, List.setIfInBounds_toArray, List.set_cons_zero, List.set_cons_succ]; done) | (simp only [Act.put, List.setIfInBounds_toArray, List.set_cons_zero, List.set_cons_succ]; rfl)), ⟨hr.cu, hr.tu, hr.k8, hr.k9, hr.f0, hr.f1, hr.f2, (fun _ => rfl), hr.f4, hr.f5, hr.f6, hr.f7, hr.f8, hr.f9⟩⟩ (if_pos rfl) (fun j hj => if_neg hj)
        · revert hK
          obtain rfl := Option.some.inj ho
          have g1 : ℓ 1 = true := hdep { on := 1, ground := Ground.data } (by simp) rfl
          have g3 : ℓ 3 = true := hdep { on := 3, ground := Ground.data } (by simp) rfl
          clear hdep ho
          have hc := hr.cu
          have ht := hr.tu
          obtain rfl := hr.f1 g1
          obtain rfl := hr.f3 g3
          intro hK
          rw [if_pos (by rfl)]
          try simp only [Act.put, List.setIfInBounds_toArray, List.set_cons_zero, List.set_cons_succ]
          have hpg := HPG.out
          go_simp
          exact hK.out _ _ (fun j => if j = 4 then true else ℓ j) ⟨x55, (.int .i64 u.pad), x57, (.int .i64 u.grd), (.int .i64 pg), x60, x61, x62, x63, x8, (by first | (simp only [Act.put, List.setIfInBounds_toArray, List.set_cons_zero, List.set_cons_succ]; done) | (simp only [Act.put, List.setIfInBounds_toArray, List.set_cons_zero, List.set_cons_succ]; rfl)), ⟨hr.cu, hr.tu, hr.k8, hr.k9, hr.f0, hr.f1, hr.f2, hr.f3, (fun _ => rfl), hr.f5, hr.f6, hr.f7, hr.f8, hr.f9⟩⟩ (if_pos rfl) (fun j hj => if_neg hj)
        · revert hK
          obtain rfl := Option.some.inj ho
          have g4 : ℓ 4 = true := hdep { on := 4, ground := Ground.data } (by simp) rfl
          clear hdep ho
          have hc := hr.cu
          have ht := hr.tu
          obtain rfl := hr.f4 g4
          intro hK
          rw [if_pos (by rfl)]
          try simp only [Act.put, List.setIfInBounds_toArray, List.set_cons_zero, List.set_cons_succ]
          have hpg1 := HPG1.out
          go_simp
          exact hK.out _ _ (fun j => if j = 5 then true else ℓ j) ⟨x55, x56, x57, x58, (.int .i64 pg), (.int .i64 pg1), x61, x62, x63, x8, (by first | (simp only [Act.put, List.setIfInBounds_toArray, List.set_cons_zero, List.set_cons_succ]; done) | (simp only [Act.put, List.setIfInBounds_toArray, List.set_cons_zero, List.set_cons_succ]; rfl)), ⟨hr.cu, hr.tu, (fun g7 => ⟨rfl, (hr.k8 g7).2.1, trivial⟩), hr.k9, hr.f0, hr.f1, hr.f2, hr.f3, hr.f4, (fun _ => rfl), hr.f6, hr.f7, hr.f8, hr.f9⟩⟩ (if_pos rfl) (fun j hj => if_neg hj)
        · revert hK
          obtain rfl := Option.some.inj ho
          clear hdep ho
          have hc := hr.cu
          have ht := hr.tu
          intro hK
          rw [if_pos (by rfl)]
          try simp only [Act.put, List.setIfInBounds_toArray, List.set_cons_zero, List.set_cons_succ]
          go_simp
          exact hK.out _ _ (fun j => if j = 6 then true else ℓ j) ⟨x55, x56, x57, x58, x59, x60, (.pointer (some ⟨B, 0, none⟩)), x62, x63, x8, (by first | (simp only [Act.put, List.setIfInBounds_toArray, List.set_cons_zero, List.set_cons_succ]; done) | (simp only [Act.put, List.setIfInBounds_toArray, List.set_cons_zero, List.set_cons_succ]; rfl)), ⟨hr.cu, hr.tu, hr.k8, hr.k9, hr.f0, hr.f1, hr.f2, hr.f3, hr.f4, hr.f5, (fun _ => rfl), hr.f7, hr.f8, hr.f9⟩⟩ (if_pos rfl) (fun j hj => if_neg hj)
        · revert hK
          obtain rfl := Option.some.inj ho
          have g6 : ℓ 6 = true := hdep { on := 6, ground := Ground.data } (by simp) rfl
          clear hdep ho
          have hc := hr.cu
          have ht := hr.tu
          obtain rfl := hr.f6 g6
          intro hK
          rw [if_pos (by rfl)]
          try simp only [Act.put, List.setIfInBounds_toArray, List.set_cons_zero, List.set_cons_succ]
          go_simp
          refine (draw_below w' B a zs cap 150 hc (by omega) (by omega)).mono ?_
          rintro e w9 ⟨y, rfl, hy0, hy1, hc9, ht9⟩
          have hyy := And.intro hy0 hy1
          exact hK.out _ _ (fun j => if j = 7 then true else ℓ j) ⟨x55, x56, x57, x58, x59, x60, (.pointer (some ⟨B, 0, none⟩)), (.int .i64 y), x63, x8, (by first | (simp only [Act.put, List.setIfInBounds_toArray, List.set_cons_zero, List.set_cons_succ]; done) | (simp only [Act.put, List.setIfInBounds_toArray, List.set_cons_zero, List.set_cons_succ]; rfl)), ⟨(hc9), (ht.trans ht9), (fun g7 => ⟨(hr.k8 g7).1, rfl, trivial⟩), hr.k9, hr.f0, hr.f1, hr.f2, hr.f3, hr.f4, hr.f5, hr.f6, (fun _ => ⟨y, rfl, hyy⟩), (fun g7 => absurd (hL.symm.trans ((hr.k8 g7).2.1)) Bool.false_ne_true), (fun g7 => absurd (hL.symm.trans ((hr.k8 ((hr.k9 g7).1)).2.1)) Bool.false_ne_true)⟩⟩ (if_pos rfl) (fun j hj => if_neg hj)
        · revert hK
          obtain rfl := Option.some.inj ho
          have g5 : ℓ 5 = true := hdep { on := 5, ground := Ground.data } (by simp) rfl
          have g7 : ℓ 7 = true := hdep { on := 7, ground := Ground.data } (by simp) rfl
          clear hdep ho
          have hc := hr.cu
          have ht := hr.tu
          obtain rfl := hr.f5 g5
          obtain ⟨y, rfl, hyy⟩ := hr.f7 g7
          intro hK
          rw [if_pos (by rfl)]
          try simp only [Act.put, List.setIfInBounds_toArray, List.set_cons_zero, List.set_cons_succ]
          go_simp
          exact hK.out _ _ (fun j => if j = 8 then true else ℓ j) ⟨x55, x56, x57, x58, x59, (.int .i64 pg1), x61, (.int .i64 y), (.int .i64 (IntKind.i64.wrap (pg1 + y))), x8, (by first | (simp only [Act.put, List.setIfInBounds_toArray, List.set_cons_zero, List.set_cons_succ]; done) | (simp only [Act.put, List.setIfInBounds_toArray, List.set_cons_zero, List.set_cons_succ]; rfl)), ⟨hr.cu, hr.tu, (fun _ => ⟨g5, g7, trivial⟩), (fun g7 => ⟨rfl, trivial⟩), hr.f0, hr.f1, hr.f2, hr.f3, hr.f4, hr.f5, hr.f6, hr.f7, (fun _ => ⟨y, rfl, rfl⟩), hr.f9⟩⟩ (if_pos rfl) (fun j hj => if_neg hj)
        · revert hK
          obtain rfl := Option.some.inj ho
          have g8 : ℓ 8 = true := hdep { on := 8, ground := Ground.data } (by simp) rfl
          clear hdep ho
          have hc := hr.cu
          have ht := hr.tu
          obtain ⟨y, ey, rfl⟩ := hr.f8 g8
          obtain rfl := ey
          intro hK
          rw [if_pos (by rfl)]
          try simp only [Act.put, List.setIfInBounds_toArray, List.set_cons_zero, List.set_cons_succ]
          go_simp
          exact hK.out _ _ (fun j => if j = 9 then true else ℓ j) ⟨x55, x56, x57, x58, x59, x60, x61, (.int .i64 y), (.int .i64 (IntKind.i64.wrap (pg1 + y))), (.int .i64 (IntKind.i64.wrap (pg1 + y))), (by first | (simp only [Act.put, List.setIfInBounds_toArray, List.set_cons_zero, List.set_cons_succ]; done) | (simp only [Act.put, List.setIfInBounds_toArray, List.set_cons_zero, List.set_cons_succ]; rfl)), ⟨hr.cu, hr.tu, hr.k8, (fun _ => ⟨g8, trivial⟩), hr.f0, hr.f1, hr.f2, hr.f3, hr.f4, hr.f5, hr.f6, hr.f7, hr.f8, (fun _ => ⟨y, rfl, rfl⟩)⟩⟩ (if_pos rfl) (fun j hj => if_neg hj)
      · rintro a' w' ℓ ℓ' hℓ hI
        rw [← show ℓ = ℓ' from funext hℓ]
        exact hI
    · intro ℓ a' w' i o hI ho hi hL hdep K hK
      obtain ⟨x43, x44, x45, x46, x47, x48, x49, x50, x51, x52, x53, x54, rfl, hr⟩ := hI
      have hi7 : i < 13 := hi
      have hcs : i = 0 ∨ i = 1 ∨ i = 2 ∨ i = 3 ∨ i = 4 ∨ i = 5 ∨ i = 6 ∨ i = 7 ∨ i = 8 ∨ i = 9 ∨ i = 10 ∨ i = 11 ∨ i = 12 := by omega
      clear hi hi7
      rcases hcs with rfl | rfl | rfl | rfl | rfl | rfl | rfl | rfl | rfl | rfl | rfl | rfl | rfl
      · revert hK
        obtain rfl := Option.some.inj ho
        clear hdep ho
        have hlL : ℓ 12 = false := by
          cases h7 : ℓ 12
          · rfl
          · have := (hr.cl h7).1; rw [this] at hL; cases hL
        have hlG := hlL
        have hc := hr.cu hlG
        have ht := hr.tu hlG
        intro hK
        rw [if_pos (by rfl)]
        try simp only [Act.put, List.setIfInBounds_toArray, List.set_cons_zero, List.set_cons_succ]
        go_simp
        exact hK.out _ _ (fun j => if j = 0 then true else ℓ j) ⟨(.pointer (some ⟨VB, 18, none⟩)), x44, x45, x46, x47, x48, x49, x50, x51, x52, x53, x54, (by simp only [Act.put, List.setIfInBounds_toArray, List.set_cons_zero, List.set_cons_succ]), ⟨(fun g7 => absurd (hlL.symm.trans g7) Bool.false_ne_true), hr.cu, hr.tu, (fun g7 => absurd (hlL.symm.trans g7) Bool.false_ne_true), hr.k11, (fun _ => rfl), hr.f1, hr.f2, hr.f3, hr.f4, hr.f5, hr.f6, hr.f7, hr.f8, hr.f9, hr.f10, hr.f11⟩⟩ (if_pos rfl) (fun j hj => if_neg hj)
      · revert hK
        obtain rfl := Option.some.inj ho
        have g0 : ℓ 0 = true := hdep { on := 0, ground := Ground.data } (by simp) rfl
        clear hdep ho
        have hlL : ℓ 12 = false := by
          cases h7 : ℓ 12
          · rfl
          · have := (hr.cl h7).2.1; rw [this] at hL; cases hL
        have hlG := hlL
        have hc := hr.cu hlG
        have ht := hr.tu hlG
        obtain rfl := hr.f0 g0
        intro hK
        rw [if_pos (by rfl)]
        try simp only [Act.put, List.setIfInBounds_toArray, List.set_cons_zero, List.set_cons_succ]
        have cc := (show w'.cell? ⟨VB, 18, none⟩ = some (.slice (some ⟨g, 0, none⟩) ad.sn ad.sc) from by rw [← HSA.out]; exact (HPN.out.turn HPB.out hc ht).rv.cell 18 rfl)
        go_simp
        exact hK.out _ _ (fun j => if j = 1 then true else ℓ j) ⟨(.pointer (some ⟨VB, 18, none⟩)), (.slice (some ⟨g, 0, none⟩) ad.sn ad.sc), x45, x46, x47, x48, x49, x50, x51, x52, x53, x54, (by simp only [Act.put, List.setIfInBounds_toArray, List.set_cons_zero, List.set_cons_succ]), ⟨(fun g7 => absurd (hlL.symm.trans g7) Bool.false_ne_true), hr.cu, hr.tu, (fun g7 => absurd (hlL.symm.trans g7) Bool.false_ne_true), hr.k11, hr.f0, (fun _ => rfl), hr.f2, hr.f3, hr.f4, hr.f5, hr.f6, hr.f7, hr.f8, hr.f9, hr.f10, hr.f11⟩⟩ (if_pos rfl) (fun j hj => if_neg hj)
      · revert hK
        obtain rfl := Option.some.inj ho
        clear hdep ho
        have hlL : ℓ 12 = false := by
          cases h7 : ℓ 12
          · rfl
          · have := (hr.cl h7).2.2.1; rw [this] at hL; cases hL
        have hlG := hlL
        have hc := hr.cu hlG
        have ht := hr.tu hlG
        intro hK
        rw [if_pos (by rfl)]
        try simp only [Act.put, List.setIfInBounds_toArray, List.set_cons_zero, List.set_cons_succ]
        go_simp
        exact hK.out _ _ (fun j => if j = 2 then true else ℓ j) ⟨x43, x44, (.int .i64 (li : Int)), x46, x47, x48, x49, x50, x51, x52, x53, x54, (by simp only [Act.put, List.setIfInBounds_toArray, List.set_cons_zero, List.set_cons_succ]), ⟨(fun g7 => absurd (hlL.symm.trans g7) Bool.false_ne_true), hr.cu, hr.tu, (fun g7 => absurd (hlL.symm.trans g7) Bool.false_ne_true), hr.k11, hr.f0, hr.f1, (fun _ => rfl), hr.f3, hr.f4, hr.f5, hr.f6, hr.f7, hr.f8, hr.f9, hr.f10, hr.f11⟩⟩ (if_pos rfl) (fun j hj => if_neg hj)
      · revert hK
        obtain rfl := Option.some.inj ho
        clear hdep ho
        have hlL : ℓ 12 = false := by
          cases h7 : ℓ 12
          · rfl
          · have := (hr.cl h7).2.2.2.1; rw [this] at hL; cases hL
        have hlG := hlL
        have hc := hr.cu hlG
        have ht := hr.tu hlG
        intro hK
        rw [if_pos (by rfl)]
        try simp only [Act.put, List.setIfInBounds_toArray, List.set_cons_zero, List.set_cons_succ]
        go_simp
        exact hK.out _ _ (fun j => if j = 3 then true else ℓ j) ⟨x43, x44, x45, (.pointer (some ⟨VB, 18, none⟩)), x47, x48, x49, x50, x51, x52, x53, x54, (by simp only [Act.put, List.setIfInBounds_toArray, List.set_cons_zero, List.set_cons_succ]), ⟨(fun g7 => absurd (hlL.symm.trans g7) Bool.false_ne_true), hr.cu, hr.tu, (fun g7 => absurd (hlL.symm.trans g7) Bool.false_ne_true), hr.k11, hr.f0, hr.f1, hr.f2, (fun _ => rfl), hr.f4, hr.f5, hr.f6, hr.f7, hr.f8, hr.f9, hr.f10, hr.f11⟩⟩ (if_pos rfl) (fun j hj => if_neg hj)
      · revert hK
        obtain rfl := Option.some.inj ho
        have g3 : ℓ 3 = true := hdep { on := 3, ground := Ground.data } (by simp) rfl
        clear hdep ho
        have hlL : ℓ 12 = false := by
          cases h7 : ℓ 12
          · rfl
          · have := (hr.cl h7).2.2.2.2.1; rw [this] at hL; cases hL
        have hlG := hlL
        have hc := hr.cu hlG
        have ht := hr.tu hlG
        obtain rfl := hr.f3 g3
        intro hK
        rw [if_pos (by rfl)]
        try simp only [Act.put, List.setIfInBounds_toArray, List.set_cons_zero, List.set_cons_succ]
        have cc := (show w'.cell? ⟨VB, 18, none⟩ = some (.slice (some ⟨g, 0, none⟩) ad.sn ad.sc) from by rw [← HSA.out]; exact (HPN.out.turn HPB.out hc ht).rv.cell 18 rfl)
        go_simp
        exact hK.out _ _ (fun j => if j = 4 then true else ℓ j) ⟨x43, x44, x45, (.pointer (some ⟨VB, 18, none⟩)), (.slice (some ⟨g, 0, none⟩) ad.sn ad.sc), x48, x49, x50, x51, x52, x53, x54, (by simp only [Act.put, List.setIfInBounds_toArray, List.set_cons_zero, List.set_cons_succ]), ⟨(fun g7 => absurd (hlL.symm.trans g7) Bool.false_ne_true), hr.cu, hr.tu, (fun g7 => absurd (hlL.symm.trans g7) Bool.false_ne_true), hr.k11, hr.f0, hr.f1, hr.f2, hr.f3, (fun _ => rfl), hr.f5, hr.f6, hr.f7, hr.f8, hr.f9, hr.f10, hr.f11⟩⟩ (if_pos rfl) (fun j hj => if_neg hj)
      · revert hK
        obtain rfl := Option.some.inj ho
        clear hdep ho
        have hlL : ℓ 12 = false := by
          cases h7 : ℓ 12
          · rfl
          · have := (hr.cl h7).2.2.2.2.2.1; rw [this] at hL; cases hL
        have hlG := hlL
        have hc := hr.cu hlG
        have ht := hr.tu hlG
        intro hK
        rw [if_pos (by rfl)]
        try simp only [Act.put, List.setIfInBounds_toArray, List.set_cons_zero, List.set_cons_succ]
        go_simp
        exact hK.out _ _ (fun j => if j = 5 then true else ℓ j) ⟨x43, x44, x45, x46, x47, (.int .i64 (li : Int)), x49, x50, x51, x52, x53, x54, (by simp only [Act.put, List.setIfInBounds_toArray, List.set_cons_zero, List.set_cons_succ]), ⟨(fun g7 => absurd (hlL.symm.trans g7) Bool.false_ne_true), hr.cu, hr.tu, (fun g7 => absurd (hlL.symm.trans g7) Bool.false_ne_true), hr.k11, hr.f0, hr.f1, hr.f2, hr.f3, hr.f4, (fun _ => rfl), hr.f6, hr.f7, hr.f8, hr.f9, hr.f10, hr.f11⟩⟩ (if_pos rfl) (fun j hj => if_neg hj)
      · revert hK
        obtain rfl := Option.some.inj ho
        have g4 : ℓ 4 = true := hdep { on := 4, ground := Ground.data } (by simp) rfl
        have g5 : ℓ 5 = true := hdep { on := 5, ground := Ground.data } (by simp) rfl
        clear hdep ho
        have hlL : ℓ 12 = false := by
          cases h7 : ℓ 12
          · rfl
          · have := (hr.cl h7).2.2.2.2.2.2.1; rw [this] at hL; cases hL
        have hlG := hlL
        have hc := hr.cu hlG
        have ht := hr.tu hlG
        obtain rfl := hr.f4 g4
        obtain rfl := hr.f5 g5
        intro hK
        rw [if_pos (by rfl)]
        try simp only [Act.put, List.setIfInBounds_toArray, List.set_cons_zero, List.set_cons_succ]
        have hli := HLI.out
        go_simp
        exact hK.out _ _ (fun j => if j = 6 then true else ℓ j) ⟨x43, x44, x45, x46, (.slice (some ⟨g, 0, none⟩) ad.sn ad.sc), (.int .i64 (li : Int)), (.pointer (some ⟨g, li * 3, none⟩)), x50, x51, x52, x53, x54, (by simp only [Act.put, List.setIfInBounds_toArray, List.set_cons_zero, List.set_cons_succ]), ⟨(fun g7 => absurd (hlL.symm.trans g7) Bool.false_ne_true), hr.cu, hr.tu, (fun g7 => absurd (hlL.symm.trans g7) Bool.false_ne_true), hr.k11, hr.f0, hr.f1, hr.f2, hr.f3, hr.f4, hr.f5, (fun _ => rfl), hr.f7, hr.f8, hr.f9, hr.f10, hr.f11⟩⟩ (if_pos rfl) (fun j hj => if_neg hj)
      · revert hK
        obtain rfl := Option.some.inj ho
        have g6 : ℓ 6 = true := hdep { on := 6, ground := Ground.data } (by simp) rfl
        clear hdep ho
        have hlL : ℓ 12 = false := by
          cases h7 : ℓ 12
          · rfl
          · have := (hr.cl h7).2.2.2.2.2.2.2.1; rw [this] at hL; cases hL
        have hlG := hlL
        have hc := hr.cu hlG
        have ht := hr.tu hlG
        obtain rfl := hr.f6 g6
        intro hK
        rw [if_pos (by rfl)]
        try simp only [Act.put, List.setIfInBounds_toArray, List.set_cons_zero, List.set_cons_succ]
        go_simp
        exact hK.out _ _ (fun j => if j = 7 then true else ℓ j) ⟨x43, x44, x45, x46, x47, x48, (.pointer (some ⟨g, li * 3, none⟩)), (.pointer (some ⟨g, li * 3 + 2, none⟩)), x51, x52, x53, x54, (by simp only [Act.put, List.setIfInBounds_toArray, List.set_cons_zero, List.set_cons_succ]), ⟨(fun g7 => absurd (hlL.symm.trans g7) Bool.false_ne_true), hr.cu, hr.tu, (fun g7 => absurd (hlL.symm.trans g7) Bool.false_ne_true), hr.k11, hr.f0, hr.f1, hr.f2, hr.f3, hr.f4, hr.f5, hr.f6, (fun _ => rfl), hr.f8, hr.f9, hr.f10, hr.f11⟩⟩ (if_pos rfl) (fun j hj => if_neg hj)
      · revert hK
        obtain rfl := Option.some.inj ho
        have g7 : ℓ 7 = true := hdep { on := 7, ground := Ground.data } (by simp) rfl
        clear hdep ho
        have hlL : ℓ 12 = false := by
          cases h7 : ℓ 12
          · rfl
          · have := (hr.cl h7).2.2.2.2.2.2.2.2.1; rw [this] at hL; cases hL
        have hlG := hlL
        have hc := hr.cu hlG
        have ht := hr.tu hlG
        obtain rfl := hr.f7 g7
        intro hK
        rw [if_pos (by rfl)]
        try simp only [Act.put, List.setIfInBounds_toArray, List.set_cons_zero, List.set_cons_succ]
        have cc := (HSX.out _ (HPN.out.turn HPB.out hc ht)).1
        go_simp
        exact hK.out _ _ (fun j => if j = 8 then true else ℓ j) ⟨x43, x44, x45, x46, x47, x48, x49, (.pointer (some ⟨g, li * 3 + 2, none⟩)), (.int .i64 x3), x52, x53, x54, (by simp only [Act.put, List.setIfInBounds_toArray, List.set_cons_zero, List.set_cons_succ]), ⟨(fun g7 => absurd (hlL.symm.trans g7) Bool.false_ne_true), hr.cu, hr.tu, (fun g7 => absurd (hlL.symm.trans g7) Bool.false_ne_true), hr.k11, hr.f0, hr.f1, hr.f2, hr.f3, hr.f4, hr.f5, hr.f6, hr.f7, (fun _ => rfl), hr.f9, hr.f10, hr.f11⟩⟩ (if_pos rfl) (fun j hj => if_neg hj)
      · revert hK
        obtain rfl := Option.some.inj ho
        have g8 : ℓ 8 = true := hdep { on := 8, ground := Ground.data } (by simp) rfl
        clear hdep ho
        have hlL : ℓ 12 = false := by
          cases h7 : ℓ 12
          · rfl
          · have := (hr.cl h7).2.2.2.2.2.2.2.2.2.1; rw [this] at hL; cases hL
        have hlG := hlL
        have hc := hr.cu hlG
        have ht := hr.tu hlG
        obtain rfl := hr.f8 g8
        intro hK
        rw [if_pos (by rfl)]
        try simp only [Act.put, List.setIfInBounds_toArray, List.set_cons_zero, List.set_cons_succ]
        have hln := HLN.out
        go_simp
        exact hK.out _ _ (fun j => if j = 9 then true else ℓ j) ⟨x43, x44, x45, x46, x47, x48, x49, x50, (.int .i64 x3), (.int .i64 ln), x53, x54, (by simp only [Act.put, List.setIfInBounds_toArray, List.set_cons_zero, List.set_cons_succ]), ⟨(fun g7 => absurd (hlL.symm.trans g7) Bool.false_ne_true), hr.cu, hr.tu, (fun g7 => absurd (hlL.symm.trans g7) Bool.false_ne_true), hr.k11, hr.f0, hr.f1, hr.f2, hr.f3, hr.f4, hr.f5, hr.f6, hr.f7, hr.f8, (fun _ => rfl), hr.f10, hr.f11⟩⟩ (if_pos rfl) (fun j hj => if_neg hj)
      · revert hK
        obtain rfl := Option.some.inj ho
        have g1 : ℓ 1 = true := hdep { on := 1, ground := Ground.data } (by simp) rfl
        have g2 : ℓ 2 = true := hdep { on := 2, ground := Ground.data } (by simp) rfl
        have g9 : ℓ 9 = true := hdep { on := 9, ground := Ground.phase } (by simp) rfl
        clear hdep ho
        have hlL : ℓ 12 = false := by
          cases h7 : ℓ 12
          · rfl
          · have := (hr.cl h7).2.2.2.2.2.2.2.2.2.2.1; rw [this] at hL; cases hL
        have hlG := hlL
        have hc := hr.cu hlG
        have ht := hr.tu hlG
        obtain rfl := hr.f1 g1
        obtain rfl := hr.f2 g2
        intro hK
        rw [if_pos (by rfl)]
        try simp only [Act.put, List.setIfInBounds_toArray, List.set_cons_zero, List.set_cons_succ]
        have hli := HLI.out
        go_simp
        exact hK.out _ _ (fun j => if j = 10 then true else ℓ j) ⟨x43, (.slice (some ⟨g, 0, none⟩) ad.sn ad.sc), (.int .i64 (li : Int)), x46, x47, x48, x49, x50, x51, x52, (.pointer (some ⟨g, li * 3, none⟩)), x54, (by simp only [Act.put, List.setIfInBounds_toArray, List.set_cons_zero, List.set_cons_succ]), ⟨(fun g7 => absurd (hlL.symm.trans g7) Bool.false_ne_true), hr.cu, hr.tu, (fun g7 => absurd (hlL.symm.trans g7) Bool.false_ne_true), (fun g7 => ⟨rfl, trivial⟩), hr.f0, hr.f1, hr.f2, hr.f3, hr.f4, hr.f5, hr.f6, hr.f7, hr.f8, hr.f9, (fun _ => rfl), hr.f11⟩⟩ (if_pos rfl) (fun j hj => if_neg hj)
      · revert hK
        obtain rfl := Option.some.inj ho
        have g10 : ℓ 10 = true := hdep { on := 10, ground := Ground.data } (by simp) rfl
        clear hdep ho
        have hlL : ℓ 12 = false := by
          cases h7 : ℓ 12
          · rfl
          · have := (hr.cl h7).2.2.2.2.2.2.2.2.2.2.2.1; rw [this] at hL; cases hL
        have hlG := hlL
        have hc := hr.cu hlG
        have ht := hr.tu hlG
        obtain rfl := hr.f10 g10
        intro hK
        rw [if_pos (by rfl)]
        try simp only [Act.put, List.setIfInBounds_toArray, List.set_cons_zero, List.set_cons_succ]
        go_simp
        exact hK.out _ _ (fun j => if j = 11 then true else ℓ j) ⟨x43, x44, x45, x46, x47, x48, x49, x50, x51, x52, (.pointer (some ⟨g, li * 3, none⟩)), (.pointer (some ⟨g, li * 3 + 2, none⟩)), (by simp only [Act.put, List.setIfInBounds_toArray, List.set_cons_zero, List.set_cons_succ]), ⟨(fun g7 => absurd (hlL.symm.trans g7) Bool.false_ne_true), hr.cu, hr.tu, (fun g7 => absurd (hlL.symm.trans g7) Bool.false_ne_true), (fun _ => ⟨g10, trivial⟩), hr.f0, hr.f1, hr.f2, hr.f3, hr.f4, hr.f5, hr.f6, hr.f7, hr.f8, hr.f9, hr.f10, (fun _ => rfl)⟩⟩ (if_pos rfl) (fun j hj => if_neg hj)
      · revert hK
        obtain rfl := Option.some.inj ho
        have g11 : ℓ 11 = true := hdep { on := 11, ground := Ground.data } (by simp) rfl
        have g9 : ℓ 9 = true := hdep { on := 9, ground := Ground.data } (by simp) rfl
        have g0 : ℓ 0 = true := hdep { on := 0, ground := Ground.phase } (by simp) rfl
        have g1 : ℓ 1 = true := hdep { on := 1, ground := Ground.phase } (by simp) rfl
        have g2 : ℓ 2 = true := hdep { on := 2, ground := Ground.phase } (by simp) rfl
        have g3 : ℓ 3 = true := hdep { on := 3, ground := Ground.phase } (by simp) rfl
        have g4 : ℓ 4 = true := hdep { on := 4, ground := Ground.phase } (by simp) rfl
        have g5 : ℓ 5 = true := hdep { on := 5, ground := Ground.phase } (by simp) rfl
        have g6 : ℓ 6 = true := hdep { on := 6, ground := Ground.phase } (by simp) rfl
        have g7 : ℓ 7 = true := hdep { on := 7, ground := Ground.phase } (by simp) rfl
        have g8 : ℓ 8 = true := hdep { on := 8, ground := Ground.phase } (by simp) rfl
        clear hdep ho
        have hc := hr.cu hL
        have ht := hr.tu hL
        obtain rfl := hr.f11 g11
        obtain rfl := hr.f9 g9
        intro hK
        rw [if_pos (by rfl)]
        try simp only [Act.put, List.setIfInBounds_toArray, List.set_cons_zero, List.set_cons_succ]
        have cc := (HSX.out _ (HPN.out.turn HPB.out hc ht)).1
        have cf := (HSX.out _ (HPN.out.turn HPB.out hc ht)).2.1
        go_simp
        exact hK.out _ _ (fun j => if j = 12 then true else ℓ j) ⟨x43, x44, x45, x46, x47, x48, x49, x50, x51, (.int .i64 ln), x53, (.pointer (some ⟨g, li * 3 + 2, none⟩)), (by simp only [Act.put, List.setIfInBounds_toArray, List.set_cons_zero, List.set_cons_succ]), ⟨(fun _ => ⟨g0, g1, g2, g3, g4, g5, g6, g7, g8, g9, (hr.k11 g11).1, g11, trivial⟩), (fun g => by cases g), (fun g => by cases g), (fun _ => ⟨w', hc, ht, rfl⟩), hr.k11, hr.f0, hr.f1, hr.f2, hr.f3, hr.f4, hr.f5, hr.f6, hr.f7, hr.f8, hr.f9, hr.f10, hr.f11⟩⟩ (if_pos rfl) (fun j hj => if_neg hj)
    · rintro a' w' ℓ ℓ' hℓ hI
      rw [← show ℓ = ℓ' from funext hℓ]
      exact hI
  · intro ℓ a' w' i o hI ho hi hL hdep K hK
    obtain ⟨x23, x24, x25, x26, x27, x28, x29, x30, x8, rfl, hr⟩ := hI
    have hi7 : i < 9 := hi
    have hcs : i = 0 ∨ i = 1 ∨ i = 2 ∨ i = 3 ∨ i = 4 ∨ i = 5 ∨ i = 6 ∨ i = 7 ∨ i = 8 := by omega
    clear hi hi7
    rcases hcs with rfl | rfl | rfl | rfl | rfl | rfl | rfl | rfl | rfl
    · revert hK
      obtain rfl := Option.some.inj ho
      clear hdep ho
      have hc := hr.cu
      have ht := hr.tu
      intro hK
      rw [if_pos (by rfl)]
      try simp only [Act.put, List.setIfInBounds_toArray, List.set_cons_zero, List.set_cons_succ]
      go_simp
      exact hK.out _ _ (fun j => if j = 0 then true else ℓ j) ⟨(.pointer (some ⟨VB, 12, none⟩)), x24, x25, x26, x27, x28, x29, x30, x8, (by first | (simp only [Act.put, List.setIfInBounds_toArray, List.set_cons_zero, List.set_cons_succ]; done) | (simp only [Act.put, List.setIfInBounds_toArray, List.set_cons_zero, List.set_cons_succ]; rfl)), ⟨hr.cu, hr.tu, hr.k7, hr.k8, (fun _ => rfl), hr.f1, hr.f2, hr.f3, hr.f4, hr.f5, hr.f6, hr.f7, hr.f8⟩⟩ (if_pos rfl) (fun j hj => if_neg hj)
    · revert hK
      obtain rfl := Option.some.inj ho
      have g0 : ℓ 0 = true := hdep { on := 0, ground := Ground.data } (by simp) rfl
      clear hdep ho
      have hc := hr.cu
      have ht := hr.tu
      obtain rfl := hr.f0 g0
      intro hK
      rw [if_pos (by rfl)]
      try simp only [Act.put, List.setIfInBounds_toArray, List.set_cons_zero, List.set_cons_succ]
      have cc := (show w'.cell? ⟨VB, 12, none⟩ = some (.int .i64 t.pad) from (HPN.out.turn HPB.out hc ht).rv.cell 12 rfl)
      go_simp
      exact hK.out _ _ (fun j => if j = 1 then true else ℓ j) ⟨(.pointer (some ⟨VB, 12, none⟩)), (.int .i64 t.pad), x25, x26, x27, x28, x29, x30, x8, (by first | (simp only [Act.put, List.setIfInBounds_toArray, List.set_cons_zero, List.set_cons_succ]; done) | (simp only [Act.put, List.setIfInBounds_toArray, List.set_cons_zero, List.set_cons_succ]; rfl)), ⟨hr.cu, hr.tu, hr.k7, hr.k8, hr.f0, (fun _ => rfl), hr.f2, hr.f3, hr.f4, hr.f5, hr.f6, hr.f7, hr.f8⟩⟩ (if_pos rfl) (fun j hj => if_neg hj)
    · revert hK
      obtain rfl := Option.some.inj ho
      clear hdep ho
      have hc := hr.cu
      have ht := hr.tu
      intro hK
      rw [if_pos (by rfl)]
      try simp only [Act.put, List.setIfInBounds_toArray, List.set_cons_zero, List.set_cons_succ]
      go_simp
      exact hK.out _ _ (fun j => if j = 2 then true else ℓ j) ⟨x23, x24, (.pointer (some ⟨VB, 13, none⟩)), x26, x27, x28, x29, x30, x8, (by first | (simp only [Act.put, List.setIfInBounds_toArray, List.set_cons_zero, List.set_cons_succ]; done) | (simp only [Act.put, List.setIfInBounds_toArray, List.set_cons_zero, List.set_cons_succ]; rfl)), ⟨hr.cu, hr.tu, hr.k7, hr.k8, hr.f0, hr.f1, (fun _ => rfl), hr.f3, hr.f4, hr.f5, hr.f6, hr.f7, hr.f8⟩⟩ (if_pos rfl) (fun j hj => if_neg hj)
    · revert hK
      obtain rfl := Option.some.inj ho
      have g2 : ℓ 2 = true := hdep { on := 2, ground := Ground.data } (by simp) rfl
      clear hdep ho
      have hc := hr.cu
      have ht := hr.tu
      obtain rfl := hr.f2 g2
      intro hK
      rw [if_pos (by rfl)]
      try simp only [Act.put, List.setIfInBounds_toArray, List.set_cons_zero, List.set_cons_succ]
      have cc := (show w'.cell? ⟨VB, 13, none⟩ = some (.int .i64 t.grd) from (HPN.out.turn HPB.out hc ht).rv.cell 13 rfl)
      go_simp
      exact hK.out _ _ (fun j => if j = 3 then true else ℓ j) ⟨x23, x24, (.pointer (some ⟨VB, 13, none⟩)), (.int .i64 t.grd), x27, x28, x29, x30, x8, (by first | (simp only [Act.put, List.setIfInBounds_toArray, List.set_cons_zero, List.set_cons_succ]; done) | (simp only [Act.put, List.setIfInBounds_toArray, List.set_cons_zero, List.set_cons_succ]; rfl)), ⟨hr.cu, hr.tu, hr.k7, hr.k8, hr.f0, hr.f1, hr.f2, (fun _ => rfl), hr.f4, hr.f5, hr.f6, hr.f7, hr.f8⟩⟩ (if_pos rfl) (fun j hj => if_neg hj)
    · revert hK
      obtain rfl := Option.some.inj ho
      have g1 : ℓ 1 = true := hdep { on := 1, ground := Ground.data } (by simp) rfl
      have g3 : ℓ 3 = true := hdep { on := 3, ground := Ground.data } (by simp) rfl
      clear hdep ho
      have hc := hr.cu
      have ht := hr.tu
      obtain rfl := hr.f1 g1
      obtain rfl := hr.f3 g3
      intro hK
      rw [if_pos (by rfl)]
      try simp only [Act.put, List.setIfInBounds_toArray, List.set_cons_zero, List.set_cons_succ]
      have hpg := HPG.out
      go_simp
      exact hK.out _ _ (fun j => if j = 4 then true else ℓ j) ⟨x23, (.int .i64 t.pad), x25, (.int .i64 t.grd), (.int .i64 pg), x28, x29, x30, x8, (by first | (simp only [Act.put, List.setIfInBounds_toArray, List.set_cons_zero, List.set_cons_succ]; done) | (simp only [Act.put, List.setIfInBounds_toArray, List.set_cons_zero, List.set_cons_succ]; rfl)), ⟨hr.cu, hr.tu, (fun g7 => ⟨rfl, (hr.k7 g7).2.1, trivial⟩), hr.k8, hr.f0, hr.f1, hr.f2, hr.f3, (fun _ => rfl), hr.f5, hr.f6, hr.f7, hr.f8⟩⟩ (if_pos rfl) (fun j hj => if_neg hj)
    · revert hK
      obtain rfl := Option.some.inj ho
      clear hdep ho
      have hc := hr.cu
      have ht := hr.tu
      intro hK
      rw [if_pos (by rfl)]
      try simp only [Act.put, List.setIfInBounds_toArray, List.set_cons_zero, List.set_cons_succ]
      go_simp
      exact hK.out _ _ (fun j => if j = 5 then true else ℓ j) ⟨x23, x24, x25, x26, x27, (.pointer (some ⟨B, 0, none⟩)), x29, x30, x8, (by first | (simp only [Act.put, List.setIfInBounds_toArray, List.set_cons_zero, List.set_cons_succ]; done) | (simp only [Act.put, List.setIfInBounds_toArray, List.set_cons_zero, List.set_cons_succ]; rfl)), ⟨hr.cu, hr.tu, hr.k7, hr.k8, hr.f0, hr.f1, hr.f2, hr.f3, hr.f4, (fun _ => rfl), hr.f6, hr.f7, hr.f8⟩⟩ (if_pos rfl) (fun j hj => if_neg hj)
    · revert hK
      obtain rfl := Option.some.inj ho
      have g5 : ℓ 5 = true := hdep { on := 5, ground := Ground.data } (by simp) rfl
      clear hdep ho
      have hc := hr.cu
      have ht := hr.tu
      obtain rfl := hr.f5 g5
      intro hK
      rw [if_pos (by rfl)]
      try simp only [Act.put, List.setIfInBounds_toArray, List.set_cons_zero, List.set_cons_succ]
      go_simp
      refine (draw_below w' B a zs cap 60 hc (by omega) (by omega)).mono ?_
      rintro e w9 ⟨y, rfl, hy0, hy1, hc9, ht9⟩
      have hyy := And.intro hy0 hy1
      exact hK.out _ _ (fun j => if j = 6 then true else ℓ j) ⟨x23, x24, x25, x26, x27, (.pointer (some ⟨B, 0, none⟩)), (.int .i64 y), x30, x8, (by first | (simp only [Act.put, List.setIfInBounds_toArray, List.set_cons_zero, List.set_cons_succ]; done) | (simp only [Act.put, List.setIfInBounds_toArray, List.set_cons_zero, List.set_cons_succ]; rfl)), ⟨(hc9), (ht.trans ht9), (fun g7 => ⟨(hr.k7 g7).1, rfl, trivial⟩), hr.k8, hr.f0, hr.f1, hr.f2, hr.f3, hr.f4, hr.f5, (fun _ => ⟨y, rfl, hyy⟩), (fun g7 => absurd (hL.symm.trans ((hr.k7 g7).2.1)) Bool.false_ne_true), (fun g7 => absurd (hL.symm.trans ((hr.k7 ((hr.k8 g7).1)).2.1)) Bool.false_ne_true)⟩⟩ (if_pos rfl) (fun j hj => if_neg hj)
    · revert hK
      obtain rfl := Option.some.inj ho
      have g4 : ℓ 4 = true := hdep { on := 4, ground := Ground.data } (by simp) rfl
      have g6 : ℓ 6 = true := hdep { on := 6, ground := Ground.data } (by simp) rfl
      clear hdep ho
      have hc := hr.cu
      have ht := hr.tu
      obtain rfl := hr.f4 g4
      obtain ⟨y, rfl, hyy⟩ := hr.f6 g6
      intro hK
      rw [if_pos (by rfl)]
      try simp only [Act.put, List.setIfInBounds_toArray, List.set_cons_zero, List.set_cons_succ]
      go_simp
      exact hK.out _ _ (fun j => if j = 7 then true else ℓ j) ⟨x23, x24, x25, x26, (.int .i64 pg), x28, (.int .i64 y), (.int .i64 (IntKind.i64.wrap (pg + y))), x8, (by first | (simp only [Act.put, List.setIfInBounds_toArray, List.set_cons_zero, List.set_cons_succ]; done) | (simp only [Act.put, List.setIfInBounds_toArray, List.set_cons_zero, List.set_cons_succ]; rfl)), ⟨hr.cu, hr.tu, (fun _ => ⟨g4, g6, trivial⟩), (fun g7 => ⟨rfl, trivial⟩), hr.f0, hr.f1, hr.f2, hr.f3, hr.f4, hr.f5, hr.f6, (fun _ => ⟨y, rfl, rfl⟩), hr.f8⟩⟩ (if_pos rfl) (fun j hj => if_neg hj)
    · revert hK
      obtain rfl := Option.some.inj ho
      have g7 : ℓ 7 = true := hdep { on := 7, ground := Ground.data } (by simp) rfl
      clear hdep ho
      have hc := hr.cu
      have ht := hr.tu
      obtain ⟨y, ey, rfl⟩ := hr.f7 g7
      obtain rfl := ey
      intro hK
      rw [if_pos (by rfl)]
      try simp only [Act.put, List.setIfInBounds_toArray, List.set_cons_zero, List.set_cons_succ]
      go_simp
      exact hK.out _ _ (fun j => if j = 8 then true else ℓ j) ⟨x23, x24, x25, x26, x27, x28, (.int .i64 y), (.int .i64 (IntKind.i64.wrap (pg + y))), (.int .i64 (IntKind.i64.wrap (pg + y))), (by first | (simp only [Act.put, List.setIfInBounds_toArray, List.set_cons_zero, List.set_cons_succ]; done) | (simp only [Act.put, List.setIfInBounds_toArray, List.set_cons_zero, List.set_cons_succ]; rfl)), ⟨hr.cu, hr.tu, hr.k7, (fun _ => ⟨g7, trivial⟩), hr.f0, hr.f1, hr.f2, hr.f3, hr.f4, hr.f5, hr.f6, hr.f7, (fun _ => ⟨y, rfl, rfl⟩)⟩⟩ (if_pos rfl) (fun j hj => if_neg hj)
  · rintro a' w' ℓ ℓ' hℓ hI
    rw [← show ℓ = ℓ' from funext hℓ]
    exact hI
end Go.Proofs.YtlomcdgfcocmmaaGreatDoor
namespace Go.Proofs.YtlomcdgfcocmmaaGreatDoor
open Go.ChangeShapes Go.WideShapes Go.ChangeAt Go.RowKit Go.Deep Go.Joins
set_option linter.unusedVariables false

theorem PN.slot {w X : World} {B : Nat} {a : Option Addr} {zs : List Int} {cap VB lo : Nat} {T : Tb} {A : Ad} (h : PN w X B a zs cap VB lo T A) (g : PB w B a zs VB lo A) (hl : T.ss.length = A.sn) (i j : Nat) (hi : i < A.sn) (hj : j < 3) (v : Value) (x' : slT) (hx : slL x' = (slL (T.ss.getD i sl0)).set j v) (q : Nat) (hq : A.sa = some ⟨q, 0, none⟩) :
    (∀ m u, (slL (T.ss.getD i sl0))[m]? = some u → X.cell? ⟨q, i * 3 + m, none⟩ = some u) ∧ X.frozen? ⟨q, i * 3 + j, none⟩ = false ∧ PN w (X.setCell ⟨q, i * 3 + j, none⟩ v) B a zs cap VB lo { T with ss := T.ss.set i x' } A := by
  obtain ⟨q', e, h1, h2, h3, h4, h5, h6⟩ := h.o.set_s hl i j hi hj v x' hx
  rw [hq] at e
  cases e
  have hqv := g.n q h5
  have hb := g.b
  have hlo := g.l
  exact ⟨h4, h3 _, cur_far h.cu q _ v (by omega) (fun b off e h0 => by have := g.la b off e h0; omega), h.bw.setCell (p := ⟨q, _, none⟩) (by show w.heap.size ≤ q; omega) v, h.r0.other (by omega), h.rv.other (fun e => hqv e.symm), h6⟩
theorem row_kept {w X : World} {B : Nat} {a : Option Addr} {zs : List Int} {cap VB lo : Nat} {T : Tb} {A : Ad} {cs : Array Value} {Y V : World} (h : PN w X B a zs cap VB lo T A) (g : PB w B a zs VB lo A) (e : Cur V B a zs cap ∧ Turn B X V ∧ Y = V.setRow w.heap.size cs) : RV Y VB (tbA T A) := by
  rw [e.2.2]
  exact (setRow_other _ _ _ _ (by have := g.v; have := g.b; omega)).trans (h.turn g e.1 e.2.1).rv
theorem res_dse {W : World} {B : Nat} {cs : Array Value} {v u : Value} {tmps : Array Value} (h : W.heap[B]? = some (.cells cs 33 (0, 0))) (hl : cs.size = 19) (ht : tmps[2]? = some (.pointer (some ⟨B, 0, none⟩))) (hq : tmps[3]? = some v) (hr : tmps[4]? = some u) : (results Tryz.f16 tmps).run Tryz.prog W = .ok (.tuple #[.agg cs, v, u]) W := by
  have hld : (loadVar 33 ⟨B, 0, none⟩).run Tryz.prog W = .ok (.agg cs) W := run_loadVar_row (P := Tryz.prog) W B 33 33 cs (0, 0) _ h Tryz.underlying33 rfl (by rw [hl]; kernel_rfl)
  unfold results
  rw [Tryz.results16]
  simp [ht, hq, hr, asAddr, hld]
structure SE7 (W0 : World) (B : Nat) (a : Option Addr) (zs : List Int) (cap : Nat) (w : World) (T : Tb) (ad : Ad) (VB : Nat) (pg : Int) (w' : World) (b0 b1 b2 b3 b4 b5 b6 b7 b8 b9 b10 b11 b12 b13 b14 : Bool) (x36 x37 x38 x39 x40 x41 x42 x43 x44 x45 x46 x47 x3 x4 : Value) : Prop where
  cu : b12 = false → Cur w' B a zs cap
  tu : b12 = false → Turn B W0 w'
  cl : b12 = true → b0 = true ∧ b1 = true ∧ b2 = true ∧ b9 = true ∧ b10 = true ∧ True
  la : b12 = true → ∃ V, Cur V B a zs cap ∧ Turn B W0 V ∧ w' = (V).setRow w.heap.size (tbA T ad)
  k2 : b2 = true → b1 = true ∧ True
  k3 : b3 = true → b2 = true ∧ True
  k10 : b10 = true → b9 = true ∧ b2 = true ∧ True
  k11 : b11 = true → b8 = true ∧ b10 = true ∧ True
  k13 : b13 = true → b3 = true ∧ True
  k14 : b14 = true → b11 = true ∧ True
  f0 : b0 = true → x36 = tbV T ad
  f1 : b1 = true → x37 = .pointer (some ⟨B, 0, none⟩)
  f2 : b2 = true → ∃ y : Int, x38 = .int .i64 y ∧ (0 ≤ y ∧ y < 5)
  f3 : b3 = true → ∃ y : Int, x38 = .int .i64 y ∧ x39 = .int .i64 (IntKind.i64.wrap (y - 1))
  f4 : b4 = true → x40 = .pointer (some ⟨VB, 12, none⟩)
  f5 : b5 = true → x41 = .int .i64 T.pad
  f6 : b6 = true → x42 = .pointer (some ⟨VB, 13, none⟩)
  f7 : b7 = true → x43 = .int .i64 T.grd
  f8 : b8 = true → x44 = .int .i64 pg
  f9 : b9 = true → x45 = .pointer (some ⟨B, 0, none⟩)
  f10 : b10 = true → ∃ y : Int, x46 = .int .i64 y ∧ (0 ≤ y ∧ y < 40)
  f11 : b11 = true → ∃ y : Int, x46 = .int .i64 y ∧ x47 = .int .i64 (IntKind.i64.wrap (pg + y))
  f13 : b13 = true → ∃ y : Int, x38 = .int .i64 y ∧ x3 = .int .i64 (IntKind.i64.wrap (y - 1))
  f14 : b14 = true → ∃ y : Int, x46 = .int .i64 y ∧ x4 = .int .i64 (IntKind.i64.wrap (pg + y))
structure SE8 (W0 : World) (B : Nat) (a : Option Addr) (zs : List Int) (cap : Nat) (w : World) (u : Tb) (ad : Ad) (VB : Nat) (pg : Int) (w' : World) (b0 b1 b2 b3 b4 b5 b6 b7 b8 b9 b10 b11 b12 b13 b14 : Bool) (x36 x37 x38 x39 x40 x41 x42 x43 x44 x45 x46 x47 x3 x4 : Value) : Prop where
  cu : b12 = false → Cur w' B a zs cap
  tu : b12 = false → Turn B W0 w'
  cl : b12 = true → b0 = true ∧ b1 = true ∧ b2 = true ∧ b9 = true ∧ b10 = true ∧ True
  la : b12 = true → ∃ V, Cur V B a zs cap ∧ Turn B W0 V ∧ w' = (V).setRow w.heap.size (tbA u ad)
  k2 : b2 = true → b1 = true ∧ True
  k3 : b3 = true → b2 = true ∧ True
  k10 : b10 = true → b9 = true ∧ b2 = true ∧ True
  k11 : b11 = true → b8 = true ∧ b10 = true ∧ True
  k13 : b13 = true → b3 = true ∧ True
  k14 : b14 = true → b11 = true ∧ True
  f0 : b0 = true → x36 = tbV u ad
  f1 : b1 = true → x37 = .pointer (some ⟨B, 0, none⟩)
  f2 : b2 = true → ∃ y : Int, x38 = .int .i64 y ∧ (0 ≤ y ∧ y < 5)
  f3 : b3 = true → ∃ y : Int, x38 = .int .i64 y ∧ x39 = .int .i64 (IntKind.i64.wrap (y - 1))
  f4 : b4 = true → x40 = .pointer (some ⟨VB, 12, none⟩)
  f5 : b5 = true → x41 = .int .i64 u.pad
  f6 : b6 = true → x42 = .pointer (some ⟨VB, 13, none⟩)
  f7 : b7 = true → x43 = .int .i64 u.grd
  f8 : b8 = true → x44 = .int .i64 pg
  f9 : b9 = true → x45 = .pointer (some ⟨B, 0, none⟩)
  f10 : b10 = true → ∃ y : Int, x46 = .int .i64 y ∧ (0 ≤ y ∧ y < 40)
  f11 : b11 = true → ∃ y : Int, x46 = .int .i64 y ∧ x47 = .int .i64 (IntKind.i64.wrap (pg + y))
  f13 : b13 = true → ∃ y : Int, x38 = .int .i64 y ∧ x3 = .int .i64 (IntKind.i64.wrap (y - 1))
  f14 : b14 = true → ∃ y : Int, x46 = .int .i64 y ∧ x4 = .int .i64 (IntKind.i64.wrap (pg + y))
structure SE6 (W0 : World) (B : Nat) (a : Option Addr) (zs : List Int) (cap : Nat) (VB : Nat) (ad : Ad) (g : Nat) (li : Nat) (x3 : Int) (w' : World) (b0 b1 b2 b3 b4 b5 b6 b7 b8 b9 b10 b11 b12 b13 b14 : Bool) (x22 x23 x24 x25 x26 x27 x28 x29 x30 x31 x32 x33 x34 x35 : Value) : Prop where
  cu : b14 = false → Cur w' B a zs cap
  tu : b14 = false → Turn B W0 w'
  cl : b14 = true → b0 = true ∧ b1 = true ∧ b2 = true ∧ b3 = true ∧ b4 = true ∧ b5 = true ∧ b6 = true ∧ b7 = true ∧ b8 = true ∧ b9 = true ∧ b10 = true ∧ b11 = true ∧ b12 = true ∧ b13 = true ∧ True
  la : b14 = true → ∃ V, Cur V B a zs cap ∧ Turn B W0 V ∧ w' = (V).setCell ⟨g, li * 3 + 2, none⟩ x33
  k1 : b1 = true → b0 = true ∧ True
  k4 : b4 = true → b3 = true ∧ True
  k6 : b6 = true → b4 = true ∧ b5 = true ∧ True
  k7 : b7 = true → b6 = true ∧ True
  k8 : b8 = true → b7 = true ∧ True
  k10 : b10 = true → b9 = true ∧ True
  k11 : b11 = true → b8 = true ∧ b10 = true ∧ True
  k12 : b12 = true → b1 = true ∧ b2 = true ∧ True
  k13 : b13 = true → b12 = true ∧ True
  f0 : b0 = true → x22 = .pointer (some ⟨VB, 18, none⟩)
  f1 : b1 = true → x23 = .slice (some ⟨g, 0, none⟩) ad.sn ad.sc
  f2 : b2 = true → x24 = .int .i64 (li : Int)
  f3 : b3 = true → x25 = .pointer (some ⟨VB, 18, none⟩)
  f4 : b4 = true → x26 = .slice (some ⟨g, 0, none⟩) ad.sn ad.sc
  f5 : b5 = true → x27 = .int .i64 (li : Int)
  f6 : b6 = true → x28 = .pointer (some ⟨g, li * 3, none⟩)
  f7 : b7 = true → x29 = .pointer (some ⟨g, li * 3 + 2, none⟩)
  f8 : b8 = true → x30 = .int .i64 x3
  f9 : b9 = true → x31 = .pointer (some ⟨B, 0, none⟩)
  f10 : b10 = true → ∃ y : Int, x32 = .int .i64 y ∧ (0 ≤ y ∧ y < 800)
  f11 : b11 = true → ∃ y : Int, x32 = .int .i64 y ∧ x33 = .int .i64 (IntKind.i64.wrap (x3 + y))
  f12 : b12 = true → x34 = .pointer (some ⟨g, li * 3, none⟩)
  f13 : b13 = true → x35 = .pointer (some ⟨g, li * 3 + 2, none⟩)
set_option maxRecDepth 40000 in
set_option maxHeartbeats 16000000 in
theorem draw_even (w : World) (a : Option Addr) (zs : List Int) (cap n : Nat) (hs : Seg .u8 w a zs) (hb : ∀ z ∈ zs, (Lit.int .u8 z).wf = true) (hl : zs.length = n) (hn : n ≤ 1048576) :
    Calls Tryz.prog 16 #[.slice a n cap] w fun e w' => ∃ T A p f, e = .returned (.tuple #[tbV T A, .int .i64 p, .int .i64 f]) ∧ DSp w.heap.size w' T A ∧ (-9223372036854775808 ≤ f ∧ f ≤ 9223372036854775807) ∧ Below w.heap.size w w' := by
  have HLA : Hid (∀ b off, a = some ⟨b, off, none⟩ → 0 < zs.length → b < w.heap.size) := seg_lt hs
  have HB0 : Hid (Below w.heap.size w (w.alloc (.cells #[.int .i64 0, .int .i64 0, .int .i64 0, .int .i64 0, .int .i64 0, .int .i64 0, .int .i64 0, .int .i64 0, .int .i64 0, .int .i64 0, .int .i64 0, .int .i64 0, .int .i64 0, .int .i64 0, .int .i64 0, .slice none 0 0, .slice none 0 0, .slice none 0 0, .slice none 0 0] 33))) := (Below.refl _ _).alloc (Nat.le_refl _) _
  have HR0 : Hid (RV (w.alloc (.cells #[.int .i64 0, .int .i64 0, .int .i64 0, .int .i64 0, .int .i64 0, .int .i64 0, .int .i64 0, .int .i64 0, .int .i64 0, .int .i64 0, .int .i64 0, .int .i64 0, .int .i64 0, .int .i64 0, .int .i64 0, .slice none 0 0, .slice none 0 0, .slice none 0 0, .slice none 0 0] 33)) w.heap.size #[.int .i64 0, .int .i64 0, .int .i64 0, .int .i64 0, .int .i64 0, .int .i64 0, .int .i64 0, .int .i64 0, .int .i64 0, .int .i64 0, .int .i64 0, .int .i64 0, .int .i64 0, .int .i64 0, .int .i64 0, .slice none 0 0, .slice none 0 0, .slice none 0 0, .slice none 0 0]) := new_row w _ _ _ rfl
  have HN : Hid (Calls Tryz.prog 29 #[.slice a n cap] (w.alloc (.cells #[.int .i64 0, .int .i64 0, .int .i64 0, .int .i64 0, .int .i64 0, .int .i64 0, .int .i64 0, .int .i64 0, .int .i64 0, .int .i64 0, .int .i64 0, .int .i64 0, .int .i64 0, .int .i64 0, .int .i64 0, .slice none 0 0, .slice none 0 0, .slice none 0 0, .slice none 0 0] 33)) fun e w' => e = .returned (.pointer (some ⟨w.heap.size + 1, 0, none⟩)) ∧ Cur w' (w.heap.size + 1) a zs cap ∧ Below (w.heap.size + 1) (w.alloc (.cells #[.int .i64 0, .int .i64 0, .int .i64 0, .int .i64 0, .int .i64 0, .int .i64 0, .int .i64 0, .int .i64 0, .int .i64 0, .int .i64 0, .int .i64 0, .int .i64 0, .int .i64 0, .int .i64 0, .int .i64 0, .slice none 0 0, .slice none 0 0, .slice none 0 0, .slice none 0 0] 33)) w') := by
    have hz : (w.alloc (.cells #[.int .i64 0, .int .i64 0, .int .i64 0, .int .i64 0, .int .i64 0, .int .i64 0, .int .i64 0, .int .i64 0, .int .i64 0, .int .i64 0, .int .i64 0, .int .i64 0, .int .i64 0, .int .i64 0, .int .i64 0, .slice none 0 0, .slice none 0 0, .slice none 0 0, .slice none 0 0] 33)).heap.size = w.heap.size + 1 := by simp
    have h := draw_new (w.alloc (.cells #[.int .i64 0, .int .i64 0, .int .i64 0, .int .i64 0, .int .i64 0, .int .i64 0, .int .i64 0, .int .i64 0, .int .i64 0, .int .i64 0, .int .i64 0, .int .i64 0, .int .i64 0, .int .i64 0, .int .i64 0, .slice none 0 0, .slice none 0 0, .slice none 0 0, .slice none 0 0] 33)) a zs cap (hs.below HB0.out) hb (by omega)
    rw [hl, hz] at h
    exact h
  clear hs hb hl hn
  go_enter Tryz.func16, Tryz.ntmps16
  go_wp2_with fail
  refine Calls.mono HN.out ?_
  rintro e w1 ⟨rfl, hc, hb1⟩
  obtain ⟨B, HB⟩ : ∃ B, Hid (w.heap.size + 1 = B) := ⟨_, rfl⟩
  have HC1 : Hid (Cur w1 B a zs cap) := by show Cur w1 B a zs cap; rw [← HB.out]; exact hc
  have HB1 : Hid (Below w.heap.size w w1) := HB0.out.trans (hb1.mono (Nat.le_succ _))
  have HR1 : Hid (RV w1 w.heap.size #[.int .i64 0, .int .i64 0, .int .i64 0, .int .i64 0, .int .i64 0, .int .i64 0, .int .i64 0, .int .i64 0, .int .i64 0, .int .i64 0, .int .i64 0, .int .i64 0, .int .i64 0, .int .i64 0, .int .i64 0, .slice none 0 0, .slice none 0 0, .slice none 0 0, .slice none 0 0]) := HR0.out.below hb1 (Nat.lt_succ_self _)
  rw [HB.out]
  clear hc hb1 HB0 HR0 HN
  go_wp2_with fail
  refine Calls.mono (draw_any w1 B a zs cap HC1.out) ?_
  rintro e w2 ⟨t, ad, rfl, hda⟩
  have hBs := HC1.out.lt
  have HB2 : Hid (Below w.heap.size w w2) := HB1.out.trans (hda.tu.below (by have := HB.out; omega) HB1.out.size)
  have HR2 : Hid (RV w2 w.heap.size #[.int .i64 0, .int .i64 0, .int .i64 0, .int .i64 0, .int .i64 0, .int .i64 0, .int .i64 0, .int .i64 0, .int .i64 0, .int .i64 0, .int .i64 0, .int .i64 0, .int .i64 0, .int .i64 0, .int .i64 0, .slice none 0 0, .slice none 0 0, .slice none 0 0, .slice none 0 0]) := HR1.out.turn hda.tu (by have := HB.out; omega)
  have hBs2 : B < w2.heap.size := hda.cu.lt
  have HNR : Hid (RV (w2.alloc (.cells #[.int .i64 0, .int .i64 0, .int .i64 0, .int .i64 0, .int .i64 0, .int .i64 0, .int .i64 0, .int .i64 0, .int .i64 0, .int .i64 0, .int .i64 0, .int .i64 0, .int .i64 0, .int .i64 0, .int .i64 0, .slice none 0 0, .slice none 0 0, .slice none 0 0, .slice none 0 0] 33)) w2.heap.size #[.int .i64 0, .int .i64 0, .int .i64 0, .int .i64 0, .int .i64 0, .int .i64 0, .int .i64 0, .int .i64 0, .int .i64 0, .int .i64 0, .int .i64 0, .int .i64 0, .int .i64 0, .int .i64 0, .int .i64 0, .slice none 0 0, .slice none 0 0, .slice none 0 0, .slice none 0 0]) := new_row w2 _ _ _ rfl
  have HPB : Hid (PB w B a zs w2.heap.size (w1.heap.size + 1) ad) := ⟨HB.out.symm, by omega, hBs2, fun k hk => by have := (hda.o.inl hk).2; omega, HLA.out⟩
  have HPN : Hid (PN w ((w2.alloc (.cells #[.int .i64 0, .int .i64 0, .int .i64 0, .int .i64 0, .int .i64 0, .int .i64 0, .int .i64 0, .int .i64 0, .int .i64 0, .int .i64 0, .int .i64 0, .int .i64 0, .int .i64 0, .int .i64 0, .int .i64 0, .slice none 0 0, .slice none 0 0, .slice none 0 0, .slice none 0 0] 33)).setRow w2.heap.size (tbA t ad)) B a zs cap w2.heap.size (w1.heap.size + 1) t ad) := by
    have hb : Below w2.heap.size w2 ((w2.alloc (.cells #[.int .i64 0, .int .i64 0, .int .i64 0, .int .i64 0, .int .i64 0, .int .i64 0, .int .i64 0, .int .i64 0, .int .i64 0, .int .i64 0, .int .i64 0, .int .i64 0, .int .i64 0, .int .i64 0, .int .i64 0, .slice none 0 0, .slice none 0 0, .slice none 0 0, .slice none 0 0] 33)).setRow w2.heap.size (tbA t ad)) := below_setRow ((Below.refl _ _).alloc (Nat.le_refl _) _) (Nat.le_refl _) _
    exact ⟨hda.cu.below hb, HB2.out.trans (hb.mono HB2.out.size), HR2.out.below hb HR2.out.lt, setRow_heap _ _ _ _ _ _ HNR.out, hda.o.keep hb.size (fun k hk => hb.block k (hda.o.inl hk).2)⟩
  have HTW : Hid (TW t ad) := hda.tw
  have HTS : Hid (TS ad) := hda.ts
  have HCP : Hid (ad.pn ≤ ad.pc ∧ ad.sn ≤ ad.sc) := ⟨hda.c1, hda.c2⟩
  have HP2 : Hid (2 ≤ ad.pn ∧ ad.pn ≤ 4) := hda.p2
  have HCU0 : Hid (Cur ((w2.alloc (.cells #[.int .i64 0, .int .i64 0, .int .i64 0, .int .i64 0, .int .i64 0, .int .i64 0, .int .i64 0, .int .i64 0, .int .i64 0, .int .i64 0, .int .i64 0, .int .i64 0, .int .i64 0, .int .i64 0, .int .i64 0, .slice none 0 0, .slice none 0 0, .slice none 0 0, .slice none 0 0] 33)).setRow w2.heap.size (tbA t ad)) B a zs cap) := HPN.out.cu
  have HBW : Hid (B < ((w2.alloc (.cells #[.int .i64 0, .int .i64 0, .int .i64 0, .int .i64 0, .int .i64 0, .int .i64 0, .int .i64 0, .int .i64 0, .int .i64 0, .int .i64 0, .int .i64 0, .int .i64 0, .int .i64 0, .int .i64 0, .int .i64 0, .slice none 0 0, .slice none 0 0, .slice none 0 0, .slice none 0 0] 33)).setRow w2.heap.size (tbA t ad)).heap.size) := HPN.out.cu.lt
  clear hda HB1 HR1 HC1 HB2 HR2 HLA
  obtain ⟨w3, HV3⟩ : ∃ w3, Hid (w3 = (w2.alloc (.cells #[.int .i64 0, .int .i64 0, .int .i64 0, .int .i64 0, .int .i64 0, .int .i64 0, .int .i64 0, .int .i64 0, .int .i64 0, .int .i64 0, .int .i64 0, .int .i64 0, .int .i64 0, .int .i64 0, .int .i64 0, .slice none 0 0, .slice none 0 0, .slice none 0 0, .slice none 0 0] 33)).setRow w2.heap.size (tbA t ad)) := ⟨_, rfl⟩
  rw [← HV3.out] at HPN
  clear HCU0 HBW hBs hBs2
  obtain ⟨mj, HMJ⟩ : ∃ v, Hid (IntKind.i64.wrap (t.maj + 800) = v) := ⟨_, rfl⟩
  have c14 : w3.cell? ⟨w2.heap.size, 14, none⟩ = some (.int .i64 t.maj) := HPN.out.rv.cell 14 rfl
  have f14 : w3.frozen? ⟨w2.heap.size, 14, none⟩ = false := HPN.out.rv.free 14
  have hmj := HMJ.out
  have HP3 : Hid (PN w (w3.setCell ⟨w2.heap.size, 14, none⟩ (.int .i64 mj)) B a zs cap w2.heap.size (w1.heap.size + 1) { t with maj := mj } ad) := HPN.out.num HPB.out 14 _ (by simp) rfl rfl rfl rfl
  have c18 : (w3.setCell ⟨w2.heap.size, 14, none⟩ (.int .i64 mj)).cell? ⟨w2.heap.size, 18, none⟩ = some (.slice ad.sa ad.sn ad.sc) := HP3.out.rv.cell 18 rfl
  obtain ⟨T, HT0⟩ : ∃ T : Tb, Hid ({ t with maj := mj } = T) := ⟨_, rfl⟩
  have HTU : Hid (TW T ad) := by show TW T ad; rw [← HT0.out]; exact HTW.out.nums rfl rfl rfl rfl
  rw [HT0.out] at HP3
  have HSN : Hid (ad.sn ≤ 1048576) := HTS.out.s
  clear HTW HT0 HPN HMJ
  by_cases hz : ad.sn = 0
  · rw [hz] at c18
    clear hz
    go_wp2_with (first | (refine wpList_store_row rfl 33 (.tmp 6) (.tmp 11) rfl w2.heap.size (tbA t ad) rfl rfl 33 (#[.int .i64 0, .int .i64 0, .int .i64 0, .int .i64 0, .int .i64 0, .int .i64 0, .int .i64 0, .int .i64 0, .int .i64 0, .int .i64 0, .int .i64 0, .int .i64 0, .int .i64 0, .int .i64 0, .int .i64 0, .slice none 0 0, .slice none 0 0, .slice none 0 0, .slice none 0 0]) HNR.out (by kernel_rfl) rfl (by simp [Value.oneCell']) ?_; rw [← HV3.out]) | fail)
    clear c18 c14 f14 hmj HNR HV3
    revert HPB HP3
    generalize (w3.setCell ⟨w2.heap.size, 14, none⟩ (.int .i64 mj)) = w5
    generalize w2.heap.size = VB
    generalize w1.heap.size + 1 = lo
    intro HPB HPN
    have HCU0 : Hid (Cur w5 B a zs cap) := HPN.out.cu
    have HBW : Hid (B < w5.heap.size) := HPN.out.cu.lt
    obtain ⟨pg, HPG⟩ : ∃ v, Hid (IntKind.i64.wrap (T.pad + T.grd) = v) := ⟨_, rfl⟩
    refine wp_region_inv (by kernel_rfl) (by kernel_rfl) (fun AC ℓ a' w' => ∃ (x36 x37 x38 x39 x40 x41 x42 x43 x44 x45 x46 x47 x3 x4 : Value), a' = ((((((((((((((AC.put (some 36) x36).put (some 37) x37).put (some 38) x38).put (some 39) x39).put (some 40) x40).put (some 41) x41).put (some 42) x42).put (some 43) x43).put (some 44) x44).put (some 45) x45).put (some 46) x46).put (some 47) x47).put (some 3) x3).put (some 4) x4) ∧ SE7 (w5) B a zs cap (w) (T) (ad) (VB) (pg)  w' (ℓ 0) (ℓ 1) (ℓ 2) (ℓ 3) (ℓ 4) (ℓ 5) (ℓ 6) (ℓ 7) (ℓ 8) (ℓ 9) (ℓ 10) (ℓ 11) (ℓ 12) (ℓ 13) (ℓ 14) x36 x37 x38 x39 x40 x41 x42 x43 x44 x45 x46 x47 x3 x4) ?_ ?_ ?_ ?_
    · exact ⟨undef, undef, undef, undef, undef, undef, undef, undef, undef, undef, undef, undef, (.int .i64 0), (.int .i64 0), (by simp only [Act.put, List.setIfInBounds_toArray, List.set_cons_zero, List.set_cons_succ]), ⟨(fun _ => HCU0.out.drewN 1), (fun _ => (Turn.refl _ _).drewN 1), (fun g => by cases g), (fun g => by cases g), (fun g => by cases g), (fun g => by cases g), (fun g => by cases g), (fun g => by cases g), (fun g => by cases g), (fun g => by cases g), (fun g => by cases g), (fun g => by cases g), (fun g => by cases g), (fun g => by cases g), (fun g => by cases g), (fun g => by cases g), (fun g => by cases g), (fun g => by cases g), (fun g => by cases g), (fun g => by cases g), (fun g => by cases g), (fun g => by cases g), (fun g => by cases g), (fun g => by cases g)⟩⟩
    · intro ℓ a' w' hI hall
      obtain ⟨x36, x37, x38, x39, x40, x41, x42, x43, x44, x45, x46, x47, x3, x4, rfl, hr⟩ := hI
      have hall' : ∀ i, i < 15 → ℓ i = true := hall
      obtain ⟨V, hcV, htV, rfl⟩ := hr.la (hall' 12 (by decide))
      obtain rfl := hr.f0 (hall' 0 (by decide))
      obtain rfl := hr.f1 (hall' 1 (by decide))
      obtain ⟨yy2, rfl, hyy2⟩ := hr.f2 (hall' 2 (by decide))
      obtain ⟨yf3, ef3, rfl⟩ := hr.f3 (hall' 3 (by decide))
      cases ef3
      obtain rfl := hr.f4 (hall' 4 (by decide))
      obtain rfl := hr.f5 (hall' 5 (by decide))
      obtain rfl := hr.f6 (hall' 6 (by decide))
      obtain rfl := hr.f7 (hall' 7 (by decide))
      obtain rfl := hr.f8 (hall' 8 (by decide))
      obtain rfl := hr.f9 (hall' 9 (by decide))
      obtain ⟨yy10, rfl, hyy10⟩ := hr.f10 (hall' 10 (by decide))
      obtain ⟨yf11, ef11, rfl⟩ := hr.f11 (hall' 11 (by decide))
      cases ef11
      obtain ⟨yf13, ef13, rfl⟩ := hr.f13 (hall' 13 (by decide))
      cases ef13
      obtain ⟨yf14, ef14, rfl⟩ := hr.f14 (hall' 14 (by decide))
      cases ef14
      clear hr hall hall'
      simp only [Act.put, List.setIfInBounds_toArray, List.set_cons_zero, List.set_cons_succ]
      have HP9 : Hid (PN w V B a zs cap VB lo T ad) := HPN.out.turn HPB.out hcV htV
      have HF : Hid _ := ds_fin HP9.out HPB.out HTU.out HTS.out HCP.out HP2.out
      have HFB : Hid _ := wrap_in (pg + yy10)
      clear HP9 HPN HCU0 HBW hcV htV hyy2 hyy10
      generalize IntKind.i64.wrap (pg + yy10) = f2 at HFB ⊢
      generalize IntKind.i64.wrap (yy2 - 1) = p2
      go_wp2
      refine bodyPost_ret (v := .tuple #[tbV T ad, .int .i64 p2, .int .i64 f2]) (res_dse HF.out.2.2.1 rfl rfl rfl rfl) rfl ?_
      exact ⟨T, ad, p2, f2, rfl, HF.out.2.2.2.1, HFB.out, HF.out.2.2.2.2⟩
    · intro ℓ a' w' i o hI ho hi hL hdep K hK
      obtain ⟨x36, x37, x38, x39, x40, x41, x42, x43, x44, x45, x46, x47, x3, x4, rfl, hr⟩ := hI
      have hi7 : i < 15 := hi
      have hcs : i = 0 ∨ i = 1 ∨ i = 2 ∨ i = 3 ∨ i = 4 ∨ i = 5 ∨ i = 6 ∨ i = 7 ∨ i = 8 ∨ i = 9 ∨ i = 10 ∨ i = 11 ∨ i = 12 ∨ i = 13 ∨ i = 14 := by omega
      clear hi hi7
      rcases hcs with rfl | rfl | rfl | rfl | rfl | rfl | rfl | rfl | rfl | rfl | rfl | rfl | rfl | rfl | rfl
      · replace ho : some ({ dst := some 36, op := .load 33 (.tmp 6), type := 33, pos := "l23_plan.go:179", after := #[], guard := none } : Oper) = some o := ho
        revert hK
        obtain rfl := Option.some.inj ho
        clear hdep ho
        have hlS : ℓ 12 = false := by
          cases h7 : ℓ 12
          · rfl
          · have := (hr.cl h7).1; rw [this] at hL; cases hL
        have hc := hr.cu hlS
        have ht := hr.tu hlS
        intro hK
        rw [if_pos (by rfl)]
        try simp only [Act.put, List.setIfInBounds_toArray, List.set_cons_zero, List.set_cons_succ]
        refine wp_load_row (P := Tryz.prog) 33 (.tmp 6) rfl VB rfl 33 (tbA T ad) (0, 0) _ ((HPN.out.turn HPB.out hc ht).rv) Tryz.underlying33 rfl (by kernel_rfl) ?_
        exact hK.out _ _ (fun j => if j = 0 then true else ℓ j) ⟨(tbV T ad), x37, x38, x39, x40, x41, x42, x43, x44, x45, x46, x47, x3, x4, (by first | (simp only [Act.put, List.setIfInBounds_toArray, List.set_cons_zero, List.set_cons_succ]; done) | (simp only [Act.put, List.setIfInBounds_toArray, List.set_cons_zero, List.set_cons_succ]; rfl)), ⟨hr.cu, hr.tu, (fun g7 => absurd (hlS.symm.trans g7) Bool.false_ne_true), (fun g7 => absurd (hlS.symm.trans g7) Bool.false_ne_true), hr.k2, hr.k3, hr.k10, hr.k11, hr.k13, hr.k14, (fun _ => rfl), hr.f1, hr.f2, hr.f3, hr.f4, hr.f5, hr.f6, hr.f7, hr.f8, hr.f9, hr.f10, hr.f11, hr.f13, hr.f14⟩⟩ (if_pos rfl) (fun j hj => if_neg hj)
      · revert hK
        obtain rfl := Option.some.inj ho
        clear hdep ho
        have hlS : ℓ 12 = false := by
          cases h7 : ℓ 12
          · rfl
          · have := (hr.cl h7).2.1; rw [this] at hL; cases hL
        have hc := hr.cu hlS
        have ht := hr.tu hlS
        intro hK
        rw [if_pos (by rfl)]
        try simp only [Act.put, List.setIfInBounds_toArray, List.set_cons_zero, List.set_cons_succ]
        go_simp
        exact hK.out _ _ (fun j => if j = 1 then true else ℓ j) ⟨x36, (.pointer (some ⟨B, 0, none⟩)), x38, x39, x40, x41, x42, x43, x44, x45, x46, x47, x3, x4, (by first | (simp only [Act.put, List.setIfInBounds_toArray, List.set_cons_zero, List.set_cons_succ]; done) | (simp only [Act.put, List.setIfInBounds_toArray, List.set_cons_zero, List.set_cons_succ]; rfl)), ⟨hr.cu, hr.tu, (fun g7 => absurd (hlS.symm.trans g7) Bool.false_ne_true), (fun g7 => absurd (hlS.symm.trans g7) Bool.false_ne_true), (fun g7 => ⟨rfl, trivial⟩), hr.k3, hr.k10, hr.k11, hr.k13, hr.k14, hr.f0, (fun _ => rfl), hr.f2, hr.f3, hr.f4, hr.f5, hr.f6, hr.f7, hr.f8, hr.f9, hr.f10, hr.f11, hr.f13, hr.f14⟩⟩ (if_pos rfl) (fun j hj => if_neg hj)
      · revert hK
        obtain rfl := Option.some.inj ho
        have g1 : ℓ 1 = true := hdep { on := 1, ground := Ground.data } (by simp) rfl
        clear hdep ho
        have hlS : ℓ 12 = false := by
          cases h7 : ℓ 12
          · rfl
          · have := (hr.cl h7).2.2.1; rw [this] at hL; cases hL
        have hc := hr.cu hlS
        have ht := hr.tu hlS
        obtain rfl := hr.f1 g1
        intro hK
        rw [if_pos (by rfl)]
        try simp only [Act.put, List.setIfInBounds_toArray, List.set_cons_zero, List.set_cons_succ]
        go_simp
        refine (draw_below w' B a zs cap 5 hc (by omega) (by omega)).mono ?_
        rintro e w9 ⟨y, rfl, hy0, hy1, hc9, ht9⟩
        have hyy := And.intro hy0 hy1
        exact hK.out _ _ (fun j => if j = 2 then true else ℓ j) ⟨x36, (.pointer (some ⟨B, 0, none⟩)), (.int .i64 y), x39, x40, x41, x42, x43, x44, x45, x46, x47, x3, x4, (by first | (simp only [Act.put, List.setIfInBounds_toArray, List.set_cons_zero, List.set_cons_succ]; done) | (simp only [Act.put, List.setIfInBounds_toArray, List.set_cons_zero, List.set_cons_succ]; rfl)), ⟨(fun _ => hc9), (fun _ => ht.trans ht9), (fun g7 => absurd (hlS.symm.trans g7) Bool.false_ne_true), (fun g7 => absurd (hlS.symm.trans g7) Bool.false_ne_true), (fun _ => ⟨g1, trivial⟩), (fun g7 => ⟨rfl, trivial⟩), (fun g7 => ⟨(hr.k10 g7).1, rfl, trivial⟩), hr.k11, hr.k13, hr.k14, hr.f0, hr.f1, (fun _ => ⟨y, rfl, hyy⟩), (fun g7 => absurd (hL.symm.trans ((hr.k3 g7).1)) Bool.false_ne_true), hr.f4, hr.f5, hr.f6, hr.f7, hr.f8, hr.f9, hr.f10, hr.f11, (fun g7 => absurd (hL.symm.trans ((hr.k3 ((hr.k13 g7).1)).1)) Bool.false_ne_true), hr.f14⟩⟩ (if_pos rfl) (fun j hj => if_neg hj)
      · revert hK
        obtain rfl := Option.some.inj ho
        have g2 : ℓ 2 = true := hdep { on := 2, ground := Ground.data } (by simp) rfl
        clear hdep ho
        obtain ⟨y, rfl, hyy⟩ := hr.f2 g2
        intro hK
        rw [if_pos (by rfl)]
        try simp only [Act.put, List.setIfInBounds_toArray, List.set_cons_zero, List.set_cons_succ]
        go_simp
        exact hK.out _ _ (fun j => if j = 3 then true else ℓ j) ⟨x36, x37, (.int .i64 y), (.int .i64 (IntKind.i64.wrap (y - 1))), x40, x41, x42, x43, x44, x45, x46, x47, x3, x4, (by first | (simp only [Act.put, List.setIfInBounds_toArray, List.set_cons_zero, List.set_cons_succ]; done) | (simp only [Act.put, List.setIfInBounds_toArray, List.set_cons_zero, List.set_cons_succ]; rfl)), ⟨hr.cu, hr.tu, hr.cl, hr.la, hr.k2, (fun _ => ⟨g2, trivial⟩), hr.k10, hr.k11, (fun g7 => ⟨rfl, trivial⟩), hr.k14, hr.f0, hr.f1, hr.f2, (fun _ => ⟨y, rfl, rfl⟩), hr.f4, hr.f5, hr.f6, hr.f7, hr.f8, hr.f9, hr.f10, hr.f11, hr.f13, hr.f14⟩⟩ (if_pos rfl) (fun j hj => if_neg hj)
      · revert hK
        obtain rfl := Option.some.inj ho
        clear hdep ho
        intro hK
        rw [if_pos (by rfl)]
        try simp only [Act.put, List.setIfInBounds_toArray, List.set_cons_zero, List.set_cons_succ]
        go_simp
        exact hK.out _ _ (fun j => if j = 4 then true else ℓ j) ⟨x36, x37, x38, x39, (.pointer (some ⟨VB, 12, none⟩)), x41, x42, x43, x44, x45, x46, x47, x3, x4, (by first | (simp only [Act.put, List.setIfInBounds_toArray, List.set_cons_zero, List.set_cons_succ]; done) | (simp only [Act.put, List.setIfInBounds_toArray, List.set_cons_zero, List.set_cons_succ]; rfl)), ⟨hr.cu, hr.tu, hr.cl, hr.la, hr.k2, hr.k3, hr.k10, hr.k11, hr.k13, hr.k14, hr.f0, hr.f1, hr.f2, hr.f3, (fun _ => rfl), hr.f5, hr.f6, hr.f7, hr.f8, hr.f9, hr.f10, hr.f11, hr.f13, hr.f14⟩⟩ (if_pos rfl) (fun j hj => if_neg hj)
      · revert hK
        obtain rfl := Option.some.inj ho
        have g4 : ℓ 4 = true := hdep { on := 4, ground := Ground.data } (by simp) rfl
        clear hdep ho
        obtain rfl := hr.f4 g4
        intro hK
        rw [if_pos (by rfl)]
        try simp only [Act.put, List.setIfInBounds_toArray, List.set_cons_zero, List.set_cons_succ]
        have cc := (show w'.cell? ⟨VB, 12, none⟩ = some (.int .i64 T.pad) from (Bool.eq_false_or_eq_true (ℓ 12)).elim (fun hS => Exists.elim (hr.la hS) fun V h => (row_kept HPN.out HPB.out h).cell 12 rfl) (fun hS => (HPN.out.turn HPB.out (hr.cu hS) (hr.tu hS)).rv.cell 12 rfl))
        go_simp
        exact hK.out _ _ (fun j => if j = 5 then true else ℓ j) ⟨x36, x37, x38, x39, (.pointer (some ⟨VB, 12, none⟩)), (.int .i64 T.pad), x42, x43, x44, x45, x46, x47, x3, x4, (by first | (simp only [Act.put, List.setIfInBounds_toArray, List.set_cons_zero, List.set_cons_succ]; done) | (simp only [Act.put, List.setIfInBounds_toArray, List.set_cons_zero, List.set_cons_succ]; rfl)), ⟨hr.cu, hr.tu, hr.cl, hr.la, hr.k2, hr.k3, hr.k10, hr.k11, hr.k13, hr.k14, hr.f0, hr.f1, hr.f2, hr.f3, hr.f4, (fun _ => rfl), hr.f6, hr.f7, hr.f8, hr.f9, hr.f10, hr.f11, hr.f13, hr.f14⟩⟩ (if_pos rfl) (fun j hj => if_neg hj)
      · revert hK
        obtain rfl := Option.some.inj ho
        clear hdep ho
        intro hK
        rw [if_pos (by rfl)]
        try simp only [Act.put, List.setIfInBounds_toArray, List.set_cons_zero, List.set_cons_succ]
        go_simp
        exact hK.out _ _ (fun j => if j = 6 then true else ℓ j) ⟨x36, x37, x38, x39, x40, x41, (.pointer (some ⟨VB, 13, none⟩)), x43, x44, x45, x46, x47, x3, x4, (by first | (simp only [Act.put, List.setIfInBounds_toArray, List.set_cons_zero, List.set_cons_succ]; done) | (simp only [Act.put, List.setIfInBounds_toArray, List.set_cons_zero, List.set_cons_succ]; rfl)), ⟨hr.cu, hr.tu, hr.cl, hr.la, hr.k2, hr.k3, hr.k10, hr.k11, hr.k13, hr.k14, hr.f0, hr.f1, hr.f2, hr.f3, hr.f4, hr.f5, (fun _ => rfl), hr.f7, hr.f8, hr.f9, hr.f10, hr.f11, hr.f13, hr.f14⟩⟩ (if_pos rfl) (fun j hj => if_neg hj)
      · revert hK
        obtain rfl := Option.some.inj ho
        have g6 : ℓ 6 = true := hdep { on := 6, ground := Ground.data } (by simp) rfl
        clear hdep ho
        obtain rfl := hr.f6 g6
        intro hK
        rw [if_pos (by rfl)]
        try simp only [Act.put, List.setIfInBounds_toArray, List.set_cons_zero, List.set_cons_succ]
        have cc := (show w'.cell? ⟨VB, 13, none⟩ = some (.int .i64 T.grd) from (Bool.eq_false_or_eq_true (ℓ 12)).elim (fun hS => Exists.elim (hr.la hS) fun V h => (row_kept HPN.out HPB.out h).cell 13 rfl) (fun hS => (HPN.out.turn HPB.out (hr.cu hS) (hr.tu hS)).rv.cell 13 rfl))
        go_simp
        exact hK.out _ _ (fun j => if j = 7 then true else ℓ j) ⟨x36, x37, x38, x39, x40, x41, (.pointer (some ⟨VB, 13, none⟩)), (.int .i64 T.grd), x44, x45, x46, x47, x3, x4, (by first | (simp only [Act.put, List.setIfInBounds_toArray, List.set_cons_zero, List.set_cons_succ]; done) | (simp only [Act.put, List.setIfInBounds_toArray, List.set_cons_zero, List.set_cons_succ]; rfl)), ⟨hr.cu, hr.tu, hr.cl, hr.la, hr.k2, hr.k3, hr.k10, hr.k11, hr.k13, hr.k14, hr.f0, hr.f1, hr.f2, hr.f3, hr.f4, hr.f5, hr.f6, (fun _ => rfl), hr.f8, hr.f9, hr.f10, hr.f11, hr.f13, hr.f14⟩⟩ (if_pos rfl) (fun j hj => if_neg hj)
      · revert hK
        obtain rfl := Option.some.inj ho
        have g5 : ℓ 5 = true := hdep { on := 5, ground := Ground.data } (by simp) rfl
        have g7 : ℓ 7 = true := hdep { on := 7, ground := Ground.data } (by simp) rfl
        clear hdep ho
        obtain rfl := hr.f5 g5
        obtain rfl := hr.f7 g7
        intro hK
        rw [if_pos (by rfl)]
        try simp only [Act.put, List.setIfInBounds_toArray, List.set_cons_zero, List.set_cons_succ]
        have hpg := HPG.out
        go_simp
        exact hK.out _ _ (fun j => if j = 8 then true else ℓ j) ⟨x36, x37, x38, x39, x40, (.int .i64 T.pad), x42, (.int .i64 T.grd), (.int .i64 pg), x45, x46, x47, x3, x4, (by first | (simp only [Act.put, List.setIfInBounds_toArray, List.set_cons_zero, List.set_cons_succ]; done) | (simp only [Act.put, List.setIfInBounds_toArray, List.set_cons_zero, List.set_cons_succ]; rfl)), ⟨hr.cu, hr.tu, hr.cl, hr.la, hr.k2, hr.k3, hr.k10, (fun g7 => ⟨rfl, (hr.k11 g7).2.1, trivial⟩), hr.k13, hr.k14, hr.f0, hr.f1, hr.f2, hr.f3, hr.f4, hr.f5, hr.f6, hr.f7, (fun _ => rfl), hr.f9, hr.f10, hr.f11, hr.f13, hr.f14⟩⟩ (if_pos rfl) (fun j hj => if_neg hj)
      · revert hK
        obtain rfl := Option.some.inj ho
        clear hdep ho
        have hlS : ℓ 12 = false := by
          cases h7 : ℓ 12
          · rfl
          · have := (hr.cl h7).2.2.2.1; rw [this] at hL; cases hL
        have hc := hr.cu hlS
        have ht := hr.tu hlS
        intro hK
        rw [if_pos (by rfl)]
        try simp only [Act.put, List.setIfInBounds_toArray, List.set_cons_zero, List.set_cons_succ]
        go_simp
        exact hK.out _ _ (fun j => if j = 9 then true else ℓ j) ⟨x36, x37, x38, x39, x40, x41, x42, x43, x44, (.pointer (some ⟨B, 0, none⟩)), x46, x47, x3, x4, (by first | (simp only [Act.put, List.setIfInBounds_toArray, List.set_cons_zero, List.set_cons_succ]; done) | (simp only [Act.put, List.setIfInBounds_toArray, List.set_cons_zero, List.set_cons_succ]; rfl)), ⟨hr.cu, hr.tu, (fun g7 => absurd (hlS.symm.trans g7) Bool.false_ne_true), (fun g7 => absurd (hlS.symm.trans g7) Bool.false_ne_true), hr.k2, hr.k3, (fun g7 => ⟨rfl, (hr.k10 g7).2.1, trivial⟩), hr.k11, hr.k13, hr.k14, hr.f0, hr.f1, hr.f2, hr.f3, hr.f4, hr.f5, hr.f6, hr.f7, hr.f8, (fun _ => rfl), hr.f10, hr.f11, hr.f13, hr.f14⟩⟩ (if_pos rfl) (fun j hj => if_neg hj)
      · revert hK
        obtain rfl := Option.some.inj ho
        have g9 : ℓ 9 = true := hdep { on := 9, ground := Ground.data } (by simp) rfl
        have g2 : ℓ 2 = true := hdep { on := 2, ground := Ground.chain } (by simp) rfl
        clear hdep ho
        have hlS : ℓ 12 = false := by
          cases h7 : ℓ 12
          · rfl
          · have := (hr.cl h7).2.2.2.2.1; rw [this] at hL; cases hL
        have hc := hr.cu hlS
        have ht := hr.tu hlS
        obtain rfl := hr.f9 g9
        intro hK
        rw [if_pos (by rfl)]
        try simp only [Act.put, List.setIfInBounds_toArray, List.set_cons_zero, List.set_cons_succ]
        go_simp
        refine (draw_below w' B a zs cap 40 hc (by omega) (by omega)).mono ?_
        rintro e w9 ⟨y, rfl, hy0, hy1, hc9, ht9⟩
        have hyy := And.intro hy0 hy1
        exact hK.out _ _ (fun j => if j = 10 then true else ℓ j) ⟨x36, x37, x38, x39, x40, x41, x42, x43, x44, (.pointer (some ⟨B, 0, none⟩)), (.int .i64 y), x47, x3, x4, (by first | (simp only [Act.put, List.setIfInBounds_toArray, List.set_cons_zero, List.set_cons_succ]; done) | (simp only [Act.put, List.setIfInBounds_toArray, List.set_cons_zero, List.set_cons_succ]; rfl)), ⟨(fun _ => hc9), (fun _ => ht.trans ht9), (fun g7 => absurd (hlS.symm.trans g7) Bool.false_ne_true), (fun g7 => absurd (hlS.symm.trans g7) Bool.false_ne_true), hr.k2, hr.k3, (fun _ => ⟨g9, g2, trivial⟩), (fun g7 => ⟨(hr.k11 g7).1, rfl, trivial⟩), hr.k13, hr.k14, hr.f0, hr.f1, hr.f2, hr.f3, hr.f4, hr.f5, hr.f6, hr.f7, hr.f8, hr.f9, (fun _ => ⟨y, rfl, hyy⟩), (fun g7 => absurd (hL.symm.trans ((hr.k11 g7).2.1)) Bool.false_ne_true), hr.f13, (fun g7 => absurd (hL.symm.trans ((hr.k11 ((hr.k14 g7).1)).2.1)) Bool.false_ne_true)⟩⟩ (if_pos rfl) (fun j hj => if_neg hj)
      · revert hK
        obtain rfl := Option.some.inj ho
        have g8 : ℓ 8 = true := hdep { on := 8, ground := Ground.data } (by simp) rfl
        have g10 : ℓ 10 = true := hdep { on := 10, ground := Ground.data } (by simp) rfl
        clear hdep ho
        obtain rfl := hr.f8 g8
        obtain ⟨y, rfl, hyy⟩ := hr.f10 g10
        intro hK
        rw [if_pos (by rfl)]
        try simp only [Act.put, List.setIfInBounds_toArray, List.set_cons_zero, List.set_cons_succ]
        go_simp
        exact hK.out _ _ (fun j => if j = 11 then true else ℓ j) ⟨x36, x37, x38, x39, x40, x41, x42, x43, (.int .i64 pg), x45, (.int .i64 y), (.int .i64 (IntKind.i64.wrap (pg + y))), x3, x4, (by first | (simp only [Act.put, List.setIfInBounds_toArray, List.set_cons_zero, List.set_cons_succ]; done) | (simp only [Act.put, List.setIfInBounds_toArray, List.set_cons_zero, List.set_cons_succ]; rfl)), ⟨hr.cu, hr.tu, hr.cl, hr.la, hr.k2, hr.k3, hr.k10, (fun _ => ⟨g8, g10, trivial⟩), hr.k13, (fun g7 => ⟨rfl, trivial⟩), hr.f0, hr.f1, hr.f2, hr.f3, hr.f4, hr.f5, hr.f6, hr.f7, hr.f8, hr.f9, hr.f10, (fun _ => ⟨y, rfl, rfl⟩), hr.f13, hr.f14⟩⟩ (if_pos rfl) (fun j hj => if_neg hj)
      · replace ho : some ({ dst := none, op := Op.store 33 (Operand.tmp 2) (Operand.tmp 36), type := 0, pos := "l23_plan.go:179", after := #[{ on := 0, ground := Ground.data }, { on := 10, ground := Ground.chain }, { on := 0, ground := Ground.phase }, { on := 1, ground := Ground.textOnly Departure.lateStores }, { on := 2, ground := Ground.textOnly Departure.lateStoresUnsure }, { on := 3, ground := Ground.textOnly Departure.lateStores }, { on := 4, ground := Ground.textOnly Departure.lateStores }, { on := 5, ground := Ground.textOnly Departure.lateStores }, { on := 6, ground := Ground.textOnly Departure.lateStores }, { on := 7, ground := Ground.textOnly Departure.lateStores }, { on := 8, ground := Ground.textOnly Departure.lateStores }, { on := 9, ground := Ground.textOnly Departure.lateStores }, { on := 10, ground := Ground.textOnly Departure.lateStoresUnsure }, { on := 11, ground := Ground.textOnly Departure.lateStores }], guard := none } : Oper) = some o := ho
        revert hK
        obtain rfl := Option.some.inj ho
        have g0 : ℓ 0 = true := hdep { on := 0, ground := Ground.data } (by simp) rfl
        have g10 : ℓ 10 = true := hdep { on := 10, ground := Ground.chain } (by simp) rfl
        clear hdep ho
        have hc := hr.cu hL
        have ht := hr.tu hL
        have g9 : ℓ 9 = true := (hr.k10 g10).1
        have g2 : ℓ 2 = true := (hr.k10 g10).2.1
        have g1 : ℓ 1 = true := (hr.k2 g2).1
        obtain rfl := hr.f0 g0
        intro hK
        rw [if_pos (by rfl)]
        try simp only [Act.put, List.setIfInBounds_toArray, List.set_cons_zero, List.set_cons_succ]
        refine wp_store_row (P := Tryz.prog) 33 (.tmp 2) (.tmp 36) rfl w.heap.size (tbA T ad) rfl rfl 33 (#[.int .i64 0, .int .i64 0, .int .i64 0, .int .i64 0, .int .i64 0, .int .i64 0, .int .i64 0, .int .i64 0, .int .i64 0, .int .i64 0, .int .i64 0, .int .i64 0, .int .i64 0, .int .i64 0, .int .i64 0, .slice none 0 0, .slice none 0 0, .slice none 0 0, .slice none 0 0]) ((HPN.out.turn HPB.out hc ht).r0) (by kernel_rfl) rfl (by simp [Value.oneCell']) ?_
        exact hK.out _ _ (fun j => if j = 12 then true else ℓ j) ⟨(tbV T ad), x37, x38, x39, x40, x41, x42, x43, x44, x45, x46, x47, x3, x4, (by first | (simp only [Act.put, List.setIfInBounds_toArray, List.set_cons_zero, List.set_cons_succ]; done) | (simp only [Act.put, List.setIfInBounds_toArray, List.set_cons_zero, List.set_cons_succ]; rfl)), ⟨(fun g => by cases g), (fun g => by cases g), (fun _ => ⟨g0, g1, g2, g9, g10, trivial⟩), (fun _ => ⟨w', hc, ht, rfl⟩), hr.k2, hr.k3, hr.k10, hr.k11, hr.k13, hr.k14, hr.f0, hr.f1, hr.f2, hr.f3, hr.f4, hr.f5, hr.f6, hr.f7, hr.f8, hr.f9, hr.f10, hr.f11, hr.f13, hr.f14⟩⟩ (if_pos rfl) (fun j hj => if_neg hj)
      · revert hK
        obtain rfl := Option.some.inj ho
        have g3 : ℓ 3 = true := hdep { on := 3, ground := Ground.data } (by simp) rfl
        have g12 : ℓ 12 = true := hdep { on := 12, ground := Ground.chain } (by simp) rfl
        clear hdep ho
        obtain ⟨y, ey, rfl⟩ := hr.f3 g3
        obtain rfl := ey
        intro hK
        rw [if_pos (by rfl)]
        try simp only [Act.put, List.setIfInBounds_toArray, List.set_cons_zero, List.set_cons_succ]
        go_simp
        exact hK.out _ _ (fun j => if j = 13 then true else ℓ j) ⟨x36, x37, (.int .i64 y), (.int .i64 (IntKind.i64.wrap (y - 1))), x40, x41, x42, x43, x44, x45, x46, x47, (.int .i64 (IntKind.i64.wrap (y - 1))), x4, (by first | (simp only [Act.put, List.setIfInBounds_toArray, List.set_cons_zero, List.set_cons_succ]; done) | (simp only [Act.put, List.setIfInBounds_toArray, List.set_cons_zero, List.set_cons_succ]; rfl)), ⟨hr.cu, hr.tu, hr.cl, hr.la, hr.k2, hr.k3, hr.k10, hr.k11, (fun _ => ⟨g3, trivial⟩), hr.k14, hr.f0, hr.f1, hr.f2, hr.f3, hr.f4, hr.f5, hr.f6, hr.f7, hr.f8, hr.f9, hr.f10, hr.f11, (fun _ => ⟨y, rfl, rfl⟩), hr.f14⟩⟩ (if_pos rfl) (fun j hj => if_neg hj)
      · revert hK
        obtain rfl := Option.some.inj ho
        have g11 : ℓ 11 = true := hdep { on := 11, ground := Ground.data } (by simp) rfl
        have g13 : ℓ 13 = true := hdep { on := 13, ground := Ground.chain } (by simp) rfl
        clear hdep ho
        obtain ⟨y, ey, rfl⟩ := hr.f11 g11
        obtain rfl := ey
        intro hK
        rw [if_pos (by rfl)]
        try simp only [Act.put, List.setIfInBounds_toArray, List.set_cons_zero, List.set_cons_succ]
        go_simp
        exact hK.out _ _ (fun j => if j = 14 then true else ℓ j) ⟨x36, x37, x38, x39, x40, x41, x42, x43, x44, x45, (.int .i64 y), (.int .i64 (IntKind.i64.wrap (pg + y))), x3, (.int .i64 (IntKind.i64.wrap (pg + y))), (by first | (simp only [Act.put, List.setIfInBounds_toArray, List.set_cons_zero, List.set_cons_succ]; done) | (simp only [Act.put, List.setIfInBounds_toArray, List.set_cons_zero, List.set_cons_succ]; rfl)), ⟨hr.cu, hr.tu, hr.cl, hr.la, hr.k2, hr.k3, hr.k10, hr.k11, hr.k13, (fun _ => ⟨g11, trivial⟩), hr.f0, hr.f1, hr.f2, hr.f3, hr.f4, hr.f5, hr.f6, hr.f7, hr.f8, hr.f9, hr.f10, hr.f11, hr.f13, (fun _ => ⟨y, rfl, rfl⟩)⟩⟩ (if_pos rfl) (fun j hj => if_neg hj)
    · rintro a' w' ℓ ℓ' hℓ hI
      rw [← show ℓ = ℓ' from funext hℓ]
      exact hI
  obtain ⟨li, hl1⟩ : ∃ li : Nat, ad.sn = li + 1 := ⟨ad.sn - 1, by omega⟩
  have hls : IntKind.i64.wrap ((ad.sn : Int) - 1) = (li : Int) := by have := HSN.out; rw [IntKind.wrap_i64]; omega
  have hge : (0 : Int) ≤ (li : Int) := by omega
  have HLI : Hid ((li : Int) < (ad.sn : Int)) := by show _ < _; omega
  clear hz hl1
  go_wp2_with (first | (refine wpList_store_row rfl 33 (.tmp 6) (.tmp 11) rfl w2.heap.size (tbA t ad) rfl rfl 33 (#[.int .i64 0, .int .i64 0, .int .i64 0, .int .i64 0, .int .i64 0, .int .i64 0, .int .i64 0, .int .i64 0, .int .i64 0, .int .i64 0, .int .i64 0, .int .i64 0, .int .i64 0, .int .i64 0, .int .i64 0, .slice none 0 0, .slice none 0 0, .slice none 0 0, .slice none 0 0]) HNR.out (by kernel_rfl) rfl (by simp [Value.oneCell']) ?_; rw [← HV3.out]) | fail)
  clear c18 c14 f14 hmj hls hge HNR HV3
  revert HPB HP3
  generalize (w3.setCell ⟨w2.heap.size, 14, none⟩ (.int .i64 mj)) = w5
  generalize w2.heap.size = VB
  generalize w1.heap.size + 1 = lo
  intro HPB HPN
  have HCU0 : Hid (Cur w5 B a zs cap) := HPN.out.cu
  have HBW : Hid (B < w5.heap.size) := HPN.out.cu.lt
  obtain ⟨g, HSA⟩ : ∃ g, Hid (ad.sa = some ⟨g, 0, none⟩) := by
    obtain ⟨g, e, _⟩ := HPN.out.o.set_s HTU.out.sl li 2 (by have := HLI.out; omega) (by omega) (.int .i64 0) ((T.ss.getD li sl0).1, (T.ss.getD li sl0).2.1, 0) rfl
    exact ⟨g, e⟩
  obtain ⟨x3, HX3⟩ : ∃ v, Hid ((T.ss.getD li sl0).2.2 = v) := ⟨_, rfl⟩
  have HSX : Hid (∀ X, PN w X B a zs cap VB lo T ad → X.cell? ⟨g, li * 3 + 2, none⟩ = some (.int .i64 x3) ∧ X.frozen? ⟨g, li * 3 + 2, none⟩ = false ∧ ∀ v, PN w (X.setCell ⟨g, li * 3 + 2, none⟩ (.int .i64 v)) B a zs cap VB lo { T with ss := T.ss.set li ((T.ss.getD li sl0).1, (T.ss.getD li sl0).2.1, v) } ad) := fun X hX => by
    have hh := fun v => hX.slot HPB.out HTU.out.sl li 2 (by have := HLI.out; omega) (by omega) (.int .i64 v) ((T.ss.getD li sl0).1, (T.ss.getD li sl0).2.1, v) rfl g HSA.out
    exact ⟨by rw [(hh 0).1 2 _ rfl, HX3.out], (hh 0).2.1, fun v => (hh v).2.2⟩
  clear HX3
  refine wp_region_inv (by kernel_rfl) (by kernel_rfl) (fun AC ℓ a' w' => ∃ (x22 x23 x24 x25 x26 x27 x28 x29 x30 x31 x32 x33 x34 x35 : Value), a' = ((((((((((((((AC.put (some 22) x22).put (some 23) x23).put (some 24) x24).put (some 25) x25).put (some 26) x26).put (some 27) x27).put (some 28) x28).put (some 29) x29).put (some 30) x30).put (some 31) x31).put (some 32) x32).put (some 33) x33).put (some 34) x34).put (some 35) x35) ∧ SE6 (w5) B a zs cap (VB) (ad) (g) (li) (x3)  w' (ℓ 0) (ℓ 1) (ℓ 2) (ℓ 3) (ℓ 4) (ℓ 5) (ℓ 6) (ℓ 7) (ℓ 8) (ℓ 9) (ℓ 10) (ℓ 11) (ℓ 12) (ℓ 13) (ℓ 14) x22 x23 x24 x25 x26 x27 x28 x29 x30 x31 x32 x33 x34 x35) ?_ ?_ ?_ ?_
  · exact ⟨undef, undef, undef, undef, undef, undef, undef, undef, undef, undef, undef, undef, undef, undef, (by simp only [Act.put, List.setIfInBounds_toArray, List.set_cons_zero, List.set_cons_succ]), ⟨(fun _ => HCU0.out.drewN 1), (fun _ => (Turn.refl _ _).drewN 1), (fun g => by cases g), (fun g => by cases g), (fun g => by cases g), (fun g => by cases g), (fun g => by cases g), (fun g => by cases g), (fun g => by cases g), (fun g => by cases g), (fun g => by cases g), (fun g => by cases g), (fun g => by cases g), (fun g => by cases g), (fun g => by cases g), (fun g => by cases g), (fun g => by cases g), (fun g => by cases g), (fun g => by cases g), (fun g => by cases g), (fun g => by cases g), (fun g => by cases g), (fun g => by cases g), (fun g => by cases g), (fun g => by cases g), (fun g => by cases g), (fun g => by cases g)⟩⟩
  · intro ℓ a' w' hI hall
    obtain ⟨x22, x23, x24, x25, x26, x27, x28, x29, x30, x31, x32, x33, x34, x35, rfl, hr⟩ := hI
    have hall' : ∀ i, i < 15 → ℓ i = true := hall
    obtain ⟨V, hcV, htV, rfl⟩ := hr.la (hall' 14 (by decide))
    obtain rfl := hr.f0 (hall' 0 (by decide))
    obtain rfl := hr.f1 (hall' 1 (by decide))
    obtain rfl := hr.f2 (hall' 2 (by decide))
    obtain rfl := hr.f3 (hall' 3 (by decide))
    obtain rfl := hr.f4 (hall' 4 (by decide))
    obtain rfl := hr.f5 (hall' 5 (by decide))
    obtain rfl := hr.f6 (hall' 6 (by decide))
    obtain rfl := hr.f7 (hall' 7 (by decide))
    obtain rfl := hr.f8 (hall' 8 (by decide))
    obtain rfl := hr.f9 (hall' 9 (by decide))
    obtain ⟨yy10, rfl, hyy10⟩ := hr.f10 (hall' 10 (by decide))
    obtain ⟨yf11, ef11, rfl⟩ := hr.f11 (hall' 11 (by decide))
    cases ef11
    obtain rfl := hr.f12 (hall' 12 (by decide))
    obtain rfl := hr.f13 (hall' 13 (by decide))
    clear hr hall hall'
    simp only [Act.put, List.setIfInBounds_toArray, List.set_cons_zero, List.set_cons_succ]
    obtain ⟨ln, hln⟩ : ∃ ln, IntKind.i64.wrap (x3 + yy10) = ln := ⟨_, rfl⟩
    rw [hln]
    clear hln
    obtain ⟨_, _, hsn⟩ := HSX.out _ (HPN.out.turn HPB.out hcV htV)
    replace hsn := hsn ln
    obtain ⟨u, HU⟩ : ∃ u : Tb, Hid ({ T with ss := T.ss.set li ((T.ss.getD li sl0).1, (T.ss.getD li sl0).2.1, ln) } = u) := ⟨_, rfl⟩
    have HTV : Hid (TW u ad) := by show TW u ad; rw [← HU.out]; exact tw_slot HTU.out li (by have := HLI.out; omega) _ rfl
    rw [HU.out] at hsn
    clear HPN HCU0 HBW hcV htV HSX hyy10 HU
    have HPN : Hid (PN w (V.setCell ⟨g, li * 3 + 2, none⟩ (.int .i64 ln)) B a zs cap VB lo u ad) := hsn
    clear hsn
    revert HPN
    generalize (V.setCell ⟨g, li * 3 + 2, none⟩ (.int .i64 ln)) = w7
    intro HPN
    have HCU0 : Hid (Cur w7 B a zs cap) := HPN.out.cu
    have HBW : Hid (B < w7.heap.size) := HPN.out.cu.lt
    obtain ⟨pg, HPG⟩ : ∃ v, Hid (IntKind.i64.wrap (u.pad + u.grd) = v) := ⟨_, rfl⟩
    go_wp2_with fail
    refine wp_region_inv (by kernel_rfl) (by kernel_rfl) (fun AC ℓ a' w' => ∃ (x36 x37 x38 x39 x40 x41 x42 x43 x44 x45 x46 x47 x3 x4 : Value), a' = ((((((((((((((AC.put (some 36) x36).put (some 37) x37).put (some 38) x38).put (some 39) x39).put (some 40) x40).put (some 41) x41).put (some 42) x42).put (some 43) x43).put (some 44) x44).put (some 45) x45).put (some 46) x46).put (some 47) x47).put (some 3) x3).put (some 4) x4) ∧ SE8 (w7) B a zs cap (w) (u) (ad) (VB) (pg)  w' (ℓ 0) (ℓ 1) (ℓ 2) (ℓ 3) (ℓ 4) (ℓ 5) (ℓ 6) (ℓ 7) (ℓ 8) (ℓ 9) (ℓ 10) (ℓ 11) (ℓ 12) (ℓ 13) (ℓ 14) x36 x37 x38 x39 x40 x41 x42 x43 x44 x45 x46 x47 x3 x4) ?_ ?_ ?_ ?_
    · exact ⟨undef, undef, undef, undef, undef, undef, undef, undef, undef, undef, undef, undef, (.int .i64 0), (.int .i64 0), (by simp only [Act.put, List.setIfInBounds_toArray, List.set_cons_zero, List.set_cons_succ]), ⟨(fun _ => HCU0.out.drewN 1), (fun _ => (Turn.refl _ _).drewN 1), (fun g => by cases g), (fun g => by cases g), (fun g => by cases g), (fun g => by cases g), (fun g => by cases g), (fun g => by cases g), (fun g => by cases g), (fun g => by cases g), (fun g => by cases g), (fun g => by cases g), (fun g => by cases g), (fun g => by cases g), (fun g => by cases g), (fun g => by cases g), (fun g => by cases g), (fun g => by cases g), (fun g => by cases g), (fun g => by cases g), (fun g => by cases g), (fun g => by cases g), (fun g => by cases g), (fun g => by cases g)⟩⟩
    · intro ℓ a' w' hI hall
      obtain ⟨x36, x37, x38, x39, x40, x41, x42, x43, x44, x45, x46, x47, x3, x4, rfl, hr⟩ := hI
      have hall' : ∀ i, i < 15 → ℓ i = true := hall
      obtain ⟨V, hcV, htV, rfl⟩ := hr.la (hall' 12 (by decide))
      obtain rfl := hr.f0 (hall' 0 (by decide))
      obtain rfl := hr.f1 (hall' 1 (by decide))
      obtain ⟨yy2, rfl, hyy2⟩ := hr.f2 (hall' 2 (by decide))
      obtain ⟨yf3, ef3, rfl⟩ := hr.f3 (hall' 3 (by decide))
      cases ef3
      obtain rfl := hr.f4 (hall' 4 (by decide))
      obtain rfl := hr.f5 (hall' 5 (by decide))
      obtain rfl := hr.f6 (hall' 6 (by decide))
      obtain rfl := hr.f7 (hall' 7 (by decide))
      obtain rfl := hr.f8 (hall' 8 (by decide))
      obtain rfl := hr.f9 (hall' 9 (by decide))
      obtain ⟨yy10, rfl, hyy10⟩ := hr.f10 (hall' 10 (by decide))
      obtain ⟨yf11, ef11, rfl⟩ := hr.f11 (hall' 11 (by decide))
      cases ef11
      obtain ⟨yf13, ef13, rfl⟩ := hr.f13 (hall' 13 (by decide))
      cases ef13
      obtain ⟨yf14, ef14, rfl⟩ := hr.f14 (hall' 14 (by decide))
      cases ef14
      clear hr hall hall'
      simp only [Act.put, List.setIfInBounds_toArray, List.set_cons_zero, List.set_cons_succ]
      have HP9 : Hid (PN w V B a zs cap VB lo u ad) := HPN.out.turn HPB.out hcV htV
      have HF : Hid _ := ds_fin HP9.out HPB.out HTV.out HTS.out HCP.out HP2.out
      have HFB : Hid _ := wrap_in (pg + yy10)
      clear HP9 HPN HCU0 HBW hcV htV hyy2 hyy10
      generalize IntKind.i64.wrap (pg + yy10) = f2 at HFB ⊢
      generalize IntKind.i64.wrap (yy2 - 1) = p2
      go_wp2
      refine bodyPost_ret (v := .tuple #[tbV u ad, .int .i64 p2, .int .i64 f2]) (res_dse HF.out.2.2.1 rfl rfl rfl rfl) rfl ?_
      exact ⟨u, ad, p2, f2, rfl, HF.out.2.2.2.1, HFB.out, HF.out.2.2.2.2⟩
    · intro ℓ a' w' i o hI ho hi hL hdep K hK
      obtain ⟨x36, x37, x38, x39, x40, x41, x42, x43, x44, x45, x46, x47, x3, x4, rfl, hr⟩ := hI
      have hi7 : i < 15 := hi
      have hcs : i = 0 ∨ i = 1 ∨ i = 2 ∨ i = 3 ∨ i = 4 ∨ i = 5 ∨ i = 6 ∨ i = 7 ∨ i = 8 ∨ i = 9 ∨ i = 10 ∨ i = 11 ∨ i = 12 ∨ i = 13 ∨ i = 14 := by omega
      clear hi hi7
      rcases hcs with rfl | rfl | rfl | rfl | rfl | rfl | rfl | rfl | rfl | rfl | rfl | rfl | rfl | rfl | rfl
      · replace ho : some ({ dst := some 36, op := .load 33 (.tmp 6), type := 33, pos := "l23_plan.go:179", after := #[], guard := none } : Oper) = some o := ho
        revert hK
        obtain rfl := Option.some.inj ho
        clear hdep ho
        have hlS : ℓ 12 = false := by
          cases h7 : ℓ 12
          · rfl
          · have := (hr.cl h7).1; rw [this] at hL; cases hL
        have hc := hr.cu hlS
        have ht := hr.tu hlS
        intro hK
        rw [if_pos (by rfl)]
        try simp only [Act.put, List.setIfInBounds_toArray, List.set_cons_zero, List.set_cons_succ]
        refine wp_load_row (P := Tryz.prog) 33 (.tmp 6) rfl VB rfl 33 (tbA u ad) (0, 0) _ ((HPN.out.turn HPB.out hc ht).rv) Tryz.underlying33 rfl (by kernel_rfl) ?_
        exact hK.out _ _ (fun j => if j = 0 then true else ℓ j) ⟨(tbV u ad), x37, x38, x39, x40, x41, x42, x43, x44, x45, x46, x47, x3, x4, (by first | (simp only [Act.put, List.setIfInBounds_toArray, List.set_cons_zero, List.set_cons_succ]; done) | (simp only [Act.put, List.setIfInBounds_toArray, List.set_cons_zero, List.set_cons_succ]; rfl)), ⟨hr.cu, hr.tu, (fun g7 => absurd (hlS.symm.trans g7) Bool.false_ne_true), (fun g7 => absurd (hlS.symm.trans g7) Bool.false_ne_true), hr.k2, hr.k3, hr.k10, hr.k11, hr.k13, hr.k14, (fun _ => rfl), hr.f1, hr.f2, hr.f3, hr.f4, hr.f5, hr.f6, hr.f7, hr.f8, hr.f9, hr.f10, hr.f11, hr.f13, hr.f14⟩⟩ (if_pos rfl) (fun j hj => if_neg hj)
      · revert hK
        obtain rfl := Option.some.inj ho
        clear hdep ho
        have hlS : ℓ 12 = false := by
          cases h7 : ℓ 12
          · rfl
          · have := (hr.cl h7).2.1; rw [this] at hL; cases hL
        have hc := hr.cu hlS
        have ht := hr.tu hlS
        intro hK
        rw [if_pos (by rfl)]
        try simp only [Act.put, List.setIfInBounds_toArray, List.set_cons_zero, List.set_cons_succ]
        go_simp
        exact hK.out _ _ (fun j => if j = 1 then true else ℓ j) ⟨x36, (.pointer (some ⟨B, 0, none⟩)), x38, x39, x40, x41, x42, x43, x44, x45, x46, x47, x3, x4, (by first | (simp only [Act.put, List.setIfInBounds_toArray, List.set_cons_zero, List.set_cons_succ]; done) | (simp only [Act.put, List.setIfInBounds_toArray, List.set_cons_zero, List.set_cons_succ]; rfl)), ⟨hr.cu, hr.tu, (fun g7 => absurd (hlS.symm.trans g7) Bool.false_ne_true), (fun g7 => absurd (hlS.symm.trans g7) Bool.false_ne_true), (fun g7 => ⟨rfl, trivial⟩), hr.k3, hr.k10, hr.k11, hr.k13, hr.k14, hr.f0, (fun _ => rfl), hr.f2, hr.f3, hr.f4, hr.f5, hr.f6, hr.f7, hr.f8, hr.f9, hr.f10, hr.f11, hr.f13, hr.f14⟩⟩ (if_pos rfl) (fun j hj => if_neg hj)
      · revert hK
        obtain rfl := Option.some.inj ho
        have g1 : ℓ 1 = true := hdep { on := 1, ground := Ground.data } (by simp) rfl
        clear hdep ho
        have hlS : ℓ 12 = false := by
          cases h7 : ℓ 12
          · rfl
          · have := (hr.cl h7).2.2.1; rw [this] at hL; cases hL
        have hc := hr.cu hlS
        have ht := hr.tu hlS
        obtain rfl := hr.f1 g1
        intro hK
        rw [if_pos (by rfl)]
        try simp only [Act.put, List.setIfInBounds_toArray, List.set_cons_zero, List.set_cons_succ]
        go_simp
        refine (draw_below w' B a zs cap 5 hc (by omega) (by omega)).mono ?_
        rintro e w9 ⟨y, rfl, hy0, hy1, hc9, ht9⟩
        have hyy := And.intro hy0 hy1
        exact hK.out _ _ (fun j => if j = 2 then true else ℓ j) ⟨x36, (.pointer (some ⟨B, 0, none⟩)), (.int .i64 y), x39, x40, x41, x42, x43, x44, x45, x46, x47, x3, x4, (by first | (simp only [Act.put, List.setIfInBounds_toArray, List.set_cons_zero, List.set_cons_succ]; done) | (simp only [Act.put, List.setIfInBounds_toArray, List.set_cons_zero, List.set_cons_succ]; rfl)), ⟨(fun _ => hc9), (fun _ => ht.trans ht9), (fun g7 => absurd (hlS.symm.trans g7) Bool.false_ne_true), (fun g7 => absurd (hlS.symm.trans g7) Bool.false_ne_true), (fun _ => ⟨g1, trivial⟩), (fun g7 => ⟨rfl, trivial⟩), (fun g7 => ⟨(hr.k10 g7).1, rfl, trivial⟩), hr.k11, hr.k13, hr.k14, hr.f0, hr.f1, (fun _ => ⟨y, rfl, hyy⟩), (fun g7 => absurd (hL.symm.trans ((hr.k3 g7).1)) Bool.false_ne_true), hr.f4, hr.f5, hr.f6, hr.f7, hr.f8, hr.f9, hr.f10, hr.f11, (fun g7 => absurd (hL.symm.trans ((hr.k3 ((hr.k13 g7).1)).1)) Bool.false_ne_true), hr.f14⟩⟩ (if_pos rfl) (fun j hj => if_neg hj)
      · revert hK
        obtain rfl := Option.some.inj ho
        have g2 : ℓ 2 = true := hdep { on := 2, ground := Ground.data } (by simp) rfl
        clear hdep ho
        obtain ⟨y, rfl, hyy⟩ := hr.f2 g2
        intro hK
        rw [if_pos (by rfl)]
        try simp only [Act.put, List.setIfInBounds_toArray, List.set_cons_zero, List.set_cons_succ]
        go_simp
        exact hK.out _ _ (fun j => if j = 3 then true else ℓ j) ⟨x36, x37, (.int .i64 y), (.int .i64 (IntKind.i64.wrap (y - 1))), x40, x41, x42, x43, x44, x45, x46, x47, x3, x4, (by first | (simp only [Act.put, List.setIfInBounds_toArray, List.set_cons_zero, List.set_cons_succ]; done) | (simp only [Act.put, List.setIfInBounds_toArray, List.set_cons_zero, List.set_cons_succ]; rfl)), ⟨hr.cu, hr.tu, hr.cl, hr.la, hr.k2, (fun _ => ⟨g2, trivial⟩), hr.k10, hr.k11, (fun g7 => ⟨rfl, trivial⟩), hr.k14, hr.f0, hr.f1, hr.f2, (fun _ => ⟨y, rfl, rfl⟩), hr.f4, hr.f5, hr.f6, hr.f7, hr.f8, hr.f9, hr.f10, hr.f11, hr.f13, hr.f14⟩⟩ (if_pos rfl) (fun j hj => if_neg hj)
      · revert hK
        obtain rfl := Option.some.inj ho
        clear hdep ho
        intro hK
        rw [if_pos (by rfl)]
        try simp only [Act.put, List.setIfInBounds_toArray, List.set_cons_zero, List.set_cons_succ]
        go_simp
        exact hK.out _ _ (fun j => if j = 4 then true else ℓ j) ⟨x36, x37, x38, x39, (.pointer (some ⟨VB, 12, none⟩)), x41, x42, x43, x44, x45, x46, x47, x3, x4, (by first | (simp only [Act.put, List.setIfInBounds_toArray, List.set_cons_zero, List.set_cons_succ]; done) | (simp only [Act.put, List.setIfInBounds_toArray, List.set_cons_zero, List.set_cons_succ]; rfl)), ⟨hr.cu, hr.tu, hr.cl, hr.la, hr.k2, hr.k3, hr.k10, hr.k11, hr.k13, hr.k14, hr.f0, hr.f1, hr.f2, hr.f3, (fun _ => rfl), hr.f5, hr.f6, hr.f7, hr.f8, hr.f9, hr.f10, hr.f11, hr.f13, hr.f14⟩⟩ (if_pos rfl) (fun j hj => if_neg hj)
      · revert hK
        obtain rfl := Option.some.inj ho
        have g4 : ℓ 4 = true := hdep { on := 4, ground := Ground.data } (by simp) rfl
        clear hdep ho
        obtain rfl := hr.f4 g4
        intro hK
        rw [if_pos (by rfl)]
        try simp only [Act.put, List.setIfInBounds_toArray, List.set_cons_zero, List.set_cons_succ]
        have cc := (show w'.cell? ⟨VB, 12, none⟩ = some (.int .i64 u.pad) from (Bool.eq_false_or_eq_true (ℓ 12)).elim (fun hS => Exists.elim (hr.la hS) fun V h => (row_kept HPN.out HPB.out h).cell 12 rfl) (fun hS => (HPN.out.turn HPB.out (hr.cu hS) (hr.tu hS)).rv.cell 12 rfl))
        go_simp
        exact hK.out _ _ (fun j => if j = 5 then true else ℓ j) ⟨x36, x37, x38, x39, (.pointer (some ⟨VB, 12, none⟩)), (.int .i64 u.pad), x42, x43, x44, x45, x46, x47, x3, x4, (by first | (simp only [Act.put, List.setIfInBounds_toArray, List.set_cons_zero, List.set_cons_succ]; done) | (simp only [Act.put, List.setIfInBounds_toArray, List.set_cons_zero, List.set_cons_succ]; rfl)), ⟨hr.cu, hr.tu, hr.cl, hr.la, hr.k2, hr.k3, hr.k10, hr.k11, hr.k13, hr.k14, hr.f0, hr.f1, hr.f2, hr.f3, hr.f4, (fun _ => rfl), hr.f6, hr.f7, hr.f8, hr.f9, hr.f10, hr.f11, hr.f13, hr.f14⟩⟩ (if_pos rfl) (fun j hj => if_neg hj)
      · revert hK
        obtain rfl := Option.some.inj ho
        clear hdep ho
        intro hK
        rw [if_pos (by rfl)]
        try simp only [Act.put, List.setIfInBounds_toArray, List.set_cons_zero, List.set_cons_succ]
        go_simp
        exact hK.out _ _ (fun j => if j = 6 then true else ℓ j) ⟨x36, x37, x38, x39, x40, x41, (.pointer (some ⟨VB, 13, none⟩)), x43, x44, x45, x46, x47, x3, x4, (by first | (simp only [Act.put, List.setIfInBounds_toArray, List.set_cons_zero, List.set_cons_succ]; done) | (simp only [Act.put, List.setIfInBounds_toArray, List.set_cons_zero, List.set_cons_succ]; rfl)), ⟨hr.cu, hr.tu, hr.cl, hr.la, hr.k2, hr.k3, hr.k10, hr.k11, hr.k13, hr.k14, hr.f0, hr.f1, hr.f2, hr.f3, hr.f4, hr.f5, (fun _ => rfl), hr.f7, hr.f8, hr.f9, hr.f10, hr.f11, hr.f13, hr.f14⟩⟩ (if_pos rfl) (fun j hj => if_neg hj)
      · revert hK
        obtain rfl := Option.some.inj ho
        have g6 : ℓ 6 = true := hdep { on := 6, ground := Ground.data } (by simp) rfl
        clear hdep ho
        obtain rfl := hr.f6 g6
        intro hK
        rw [if_pos (by rfl)]
        try simp only [Act.put, List.setIfInBounds_toArray, List.set_cons_zero, List.set_cons_succ]
        have cc := (show w'.cell? ⟨VB, 13, none⟩ = some (.int .i64 u.grd) from (Bool.eq_false_or_eq_true (ℓ 12)).elim (fun hS => Exists.elim (hr.la hS) fun V h => (row_kept HPN.out HPB.out h).cell 13 rfl) (fun hS => (HPN.out.turn HPB.out (hr.cu hS) (hr.tu hS)).rv.cell 13 rfl))
        go_simp
        exact hK.out _ _ (fun j => if j = 7 then true else ℓ j) ⟨x36, x37, x38, x39, x40, x41, (.pointer (some ⟨VB, 13, none⟩)), (.int .i64 u.grd), x44, x45, x46, x47, x3, x4, (by first | (simp only [Act.put, List.setIfInBounds_toArray, List.set_cons_zero, List.set_cons_succ]; done) | (simp only [Act.put, List.setIfInBounds_toArray, List.set_cons_zero, List.set_cons_succ]; rfl)), ⟨hr.cu, hr.tu, hr.cl, hr.la, hr.k2, hr.k3, hr.k10, hr.k11, hr.k13, hr.k14, hr.f0, hr.f1, hr.f2, hr.f3, hr.f4, hr.f5, hr.f6, (fun _ => rfl), hr.f8, hr.f9, hr.f10, hr.f11, hr.f13, hr.f14⟩⟩ (if_pos rfl) (fun j hj => if_neg hj)
      · revert hK
        obtain rfl := Option.some.inj ho
        have g5 : ℓ 5 = true := hdep { on := 5, ground := Ground.data } (by simp) rfl
        have g7 : ℓ 7 = true := hdep { on := 7, ground := Ground.data } (by simp) rfl
        clear hdep ho
        obtain rfl := hr.f5 g5
        obtain rfl := hr.f7 g7
        intro hK
        rw [if_pos (by rfl)]
        try simp only [Act.put, List.setIfInBounds_toArray, List.set_cons_zero, List.set_cons_succ]
        have hpg := HPG.out
        go_simp
        exact hK.out _ _ (fun j => if j = 8 then true else ℓ j) ⟨x36, x37, x38, x39, x40, (.int .i64 u.pad), x42, (.int .i64 u.grd), (.int .i64 pg), x45, x46, x47, x3, x4, (by first | (simp only [Act.put, List.setIfInBounds_toArray, List.set_cons_zero, List.set_cons_succ]; done) | (simp only [Act.put, List.setIfInBounds_toArray, List.set_cons_zero, List.set_cons_succ]; rfl)), ⟨hr.cu, hr.tu, hr.cl, hr.la, hr.k2, hr.k3, hr.k10, (fun g7 => ⟨rfl, (hr.k11 g7).2.1, trivial⟩), hr.k13, hr.k14, hr.f0, hr.f1, hr.f2, hr.f3, hr.f4, hr.f5, hr.f6, hr.f7, (fun _ => rfl), hr.f9, hr.f10, hr.f11, hr.f13, hr.f14⟩⟩ (if_pos rfl) (fun j hj => if_neg hj)
      · revert hK
        obtain rfl := Option.some.inj ho
        clear hdep ho
        have hlS : ℓ 12 = false := by
          cases h7 : ℓ 12
          · rfl
          · have := (hr.cl h7).2.2.2.1; rw [this] at hL; cases hL
        have hc := hr.cu hlS
        have ht := hr.tu hlS
        intro hK
        rw [if_pos (by rfl)]
        try simp only [Act.put, List.setIfInBounds_toArray, List.set_cons_zero, List.set_cons_succ]
        go_simp
        exact hK.out _ _ (fun j => if j = 9 then true else ℓ j) ⟨x36, x37, x38, x39, x40, x41, x42, x43, x44, (.pointer (some ⟨B, 0, none⟩)), x46, x47, x3, x4, (by first | (simp only [Act.put, List.setIfInBounds_toArray, List.set_cons_zero, List.set_cons_succ]; done) | (simp only [Act.put, List.setIfInBounds_toArray, List.set_cons_zero, List.set_cons_succ]; rfl)), ⟨hr.cu, hr.tu, (fun g7 => absurd (hlS.symm.trans g7) Bool.false_ne_true), (fun g7 => absurd (hlS.symm.trans g7) Bool.false_ne_true), hr.k2, hr.k3, (fun g7 => ⟨rfl, (hr.k10 g7).2.1, trivial⟩), hr.k11, hr.k13, hr.k14, hr.f0, hr.f1, hr.f2, hr.f3, hr.f4, hr.f5, hr.f6, hr.f7, hr.f8, (fun _ => rfl), hr.f10, hr.f11, hr.f13, hr.f14⟩⟩ (if_pos rfl) (fun j hj => if_neg hj)
      · revert hK
        obtain rfl := Option.some.inj ho
        have g9 : ℓ 9 = true := hdep { on := 9, ground := Ground.data } (by simp) rfl
        have g2 : ℓ 2 = true := hdep { on := 2, ground := Ground.chain } (by simp) rfl
        clear hdep ho
        have hlS : ℓ 12 = false := by
          cases h7 : ℓ 12
          · rfl
          · have := (hr.cl h7).2.2.2.2.1; rw [this] at hL; cases hL
        have hc := hr.cu hlS
        have ht := hr.tu hlS
        obtain rfl := hr.f9 g9
        intro hK
        rw [if_pos (by rfl)]
        try simp only [Act.put, List.setIfInBounds_toArray, List.set_cons_zero, List.set_cons_succ]
        go_simp
        refine (draw_below w' B a zs cap 40 hc (by omega) (by omega)).mono ?_
        rintro e w9 ⟨y, rfl, hy0, hy1, hc9, ht9⟩
        have hyy := And.intro hy0 hy1
        exact hK.out _ _ (fun j => if j = 10 then true else ℓ j) ⟨x36, x37, x38, x39, x40, x41, x42, x43, x44, (.pointer (some ⟨B, 0, none⟩)), (.int .i64 y), x47, x3, x4, (by first | (simp only [Act.put, List.setIfInBounds_toArray, List.set_cons_zero, List.set_cons_succ]; done) | (simp only [Act.put, List.setIfInBounds_toArray, List.set_cons_zero, List.set_cons_succ]; rfl)), ⟨(fun _ => hc9), (fun _ => ht.trans ht9), (fun g7 => absurd (hlS.symm.trans g7) Bool.false_ne_true), (fun g7 => absurd (hlS.symm.trans g7) Bool.false_ne_true), hr.k2, hr.k3, (fun _ => ⟨g9, g2, trivial⟩), (fun g7 => ⟨(hr.k11 g7).1, rfl, trivial⟩), hr.k13, hr.k14, hr.f0, hr.f1, hr.f2, hr.f3, hr.f4, hr.f5, hr.f6, hr.f7, hr.f8, hr.f9, (fun _ => ⟨y, rfl, hyy⟩), (fun g7 => absurd (hL.symm.trans ((hr.k11 g7).2.1)) Bool.false_ne_true), hr.f13, (fun g7 => absurd (hL.symm.trans ((hr.k11 ((hr.k14 g7).1)).2.1)) Bool.false_ne_true)⟩⟩ (if_pos rfl) (fun j hj => if_neg hj)
      · revert hK
        obtain rfl := Option.some.inj ho
        have g8 : ℓ 8 = true := hdep { on := 8, ground := Ground.data } (by simp) rfl
        have g10 : ℓ 10 = true := hdep { on := 10, ground := Ground.data } (by simp) rfl
        clear hdep ho
        obtain rfl := hr.f8 g8
        obtain ⟨y, rfl, hyy⟩ := hr.f10 g10
        intro hK
        rw [if_pos (by rfl)]
        try simp only [Act.put, List.setIfInBounds_toArray, List.set_cons_zero, List.set_cons_succ]
        go_simp
        exact hK.out _ _ (fun j => if j = 11 then true else ℓ j) ⟨x36, x37, x38, x39, x40, x41, x42, x43, (.int .i64 pg), x45, (.int .i64 y), (.int .i64 (IntKind.i64.wrap (pg + y))), x3, x4, (by first | (simp only [Act.put, List.setIfInBounds_toArray, List.set_cons_zero, List.set_cons_succ]; done) | (simp only [Act.put, List.setIfInBounds_toArray, List.set_cons_zero, List.set_cons_succ]; rfl)), ⟨hr.cu, hr.tu, hr.cl, hr.la, hr.k2, hr.k3, hr.k10, (fun _ => ⟨g8, g10, trivial⟩), hr.k13, (fun g7 => ⟨rfl, trivial⟩), hr.f0, hr.f1, hr.f2, hr.f3, hr.f4, hr.f5, hr.f6, hr.f7, hr.f8, hr.f9, hr.f10, (fun _ => ⟨y, rfl, rfl⟩), hr.f13, hr.f14⟩⟩ (if_pos rfl) (fun j hj => if_neg hj)
      · replace ho : some ({ dst := none, op := Op.store 33 (Operand.tmp 2) (Operand.tmp 36), type := 0, pos := "l23_plan.go:179", after := #[{ on := 0, ground := Ground.data }, { on := 10, ground := Ground.chain }, { on := 0, ground := Ground.phase }, { on := 1, ground := Ground.textOnly Departure.lateStores }, { on := 2, ground := Ground.textOnly Departure.lateStoresUnsure }, { on := 3, ground := Ground.textOnly Departure.lateStores }, { on := 4, ground := Ground.textOnly Departure.lateStores }, { on := 5, ground := Ground.textOnly Departure.lateStores }, { on := 6, ground := Ground.textOnly Departure.lateStores }, { on := 7, ground := Ground.textOnly Departure.lateStores }, { on := 8, ground := Ground.textOnly Departure.lateStores }, { on := 9, ground := Ground.textOnly Departure.lateStores }, { on := 10, ground := Ground.textOnly Departure.lateStoresUnsure }, { on := 11, ground := Ground.textOnly Departure.lateStores }], guard := none } : Oper) = some o := ho
        revert hK
        obtain rfl := Option.some.inj ho
        have g0 : ℓ 0 = true := hdep { on := 0, ground := Ground.data } (by simp) rfl
        have g10 : ℓ 10 = true := hdep { on := 10, ground := Ground.chain } (by simp) rfl
        clear hdep ho
        have hc := hr.cu hL
        have ht := hr.tu hL
        have g9 : ℓ 9 = true := (hr.k10 g10).1
        have g2 : ℓ 2 = true := (hr.k10 g10).2.1
        have g1 : ℓ 1 = true := (hr.k2 g2).1
        obtain rfl := hr.f0 g0
        intro hK
        rw [if_pos (by rfl)]
        try simp only [Act.put, List.setIfInBounds_toArray, List.set_cons_zero, List.set_cons_succ]
        refine wp_store_row (P := Tryz.prog) 33 (.tmp 2) (.tmp 36) rfl w.heap.size (tbA u ad) rfl rfl 33 (#[.int .i64 0, .int .i64 0, .int .i64 0, .int .i64 0, .int .i64 0, .int .i64 0, .int .i64 0, .int .i64 0, .int .i64 0, .int .i64 0, .int .i64 0, .int .i64 0, .int .i64 0, .int .i64 0, .int .i64 0, .slice none 0 0, .slice none 0 0, .slice none 0 0, .slice none 0 0]) ((HPN.out.turn HPB.out hc ht).r0) (by kernel_rfl) rfl (by simp [Value.oneCell']) ?_
        exact hK.out _ _ (fun j => if j = 12 then true else ℓ j) ⟨(tbV u ad), x37, x38, x39, x40, x41, x42, x43, x44, x45, x46, x47, x3, x4, (by first | (simp only [Act.put, List.setIfInBounds_toArray, List.set_cons_zero, List.set_cons_succ]; done) | (simp only [Act.put, List.setIfInBounds_toArray, List.set_cons_zero, List.set_cons_succ]; rfl)), ⟨(fun g => by cases g), (fun g => by cases g), (fun _ => ⟨g0, g1, g2, g9, g10, trivial⟩), (fun _ => ⟨w', hc, ht, rfl⟩), hr.k2, hr.k3, hr.k10, hr.k11, hr.k13, hr.k14, hr.f0, hr.f1, hr.f2, hr.f3, hr.f4, hr.f5, hr.f6, hr.f7, hr.f8, hr.f9, hr.f10, hr.f11, hr.f13, hr.f14⟩⟩ (if_pos rfl) (fun j hj => if_neg hj)
      · revert hK
        obtain rfl := Option.some.inj ho
        have g3 : ℓ 3 = true := hdep { on := 3, ground := Ground.data } (by simp) rfl
        have g12 : ℓ 12 = true := hdep { on := 12, ground := Ground.chain } (by simp) rfl
        clear hdep ho
        obtain ⟨y, ey, rfl⟩ := hr.f3 g3
        obtain rfl := ey
        intro hK
        rw [if_pos (by rfl)]
        try simp only [Act.put, List.setIfInBounds_toArray, List.set_cons_zero, List.set_cons_succ]
        go_simp
        exact hK.out _ _ (fun j => if j = 13 then true else ℓ j) ⟨x36, x37, (.int .i64 y), (.int .i64 (IntKind.i64.wrap (y - 1))), x40, x41, x42, x43, x44, x45, x46, x47, (.int .i64 (IntKind.i64.wrap (y - 1))), x4, (by first | (simp only [Act.put, List.setIfInBounds_toArray, List.set_cons_zero, List.set_cons_succ]; done) | (simp only [Act.put, List.setIfInBounds_toArray, List.set_cons_zero, List.set_cons_succ]; rfl)), ⟨hr.cu, hr.tu, hr.cl, hr.la, hr.k2, hr.k3, hr.k10, hr.k11, (fun _ => ⟨g3, trivial⟩), hr.k14, hr.f0, hr.f1, hr.f2, hr.f3, hr.f4, hr.f5, hr.f6, hr.f7, hr.f8, hr.f9, hr.f10, hr.f11, (fun _ => ⟨y, rfl, rfl⟩), hr.f14⟩⟩ (if_pos rfl) (fun j hj => if_neg hj)
      · revert hK
        obtain rfl := Option.some.inj ho
        have g11 : ℓ 11 = true := hdep { on := 11, ground := Ground.data } (by simp) rfl
        have g13 : ℓ 13 = true := hdep { on := 13, ground := Ground.chain } (by simp) rfl
        clear hdep ho
        obtain ⟨y, ey, rfl⟩ := hr.f11 g11
        obtain rfl := ey
        intro hK
        rw [if_pos (by rfl)]
        try simp only [Act.put, List.setIfInBounds_toArray, List.set_cons_zero, List.set_cons_succ]
        go_simp
        exact hK.out _ _ (fun j => if j = 14 then true else ℓ j) ⟨x36, x37, x38, x39, x40, x41, x42, x43, x44, x45, (.int .i64 y), (.int .i64 (IntKind.i64.wrap (pg + y))), x3, (.int .i64 (IntKind.i64.wrap (pg + y))), (by first | (simp only [Act.put, List.setIfInBounds_toArray, List.set_cons_zero, List.set_cons_succ]; done) | (simp only [Act.put, List.setIfInBounds_toArray, List.set_cons_zero, List.set_cons_succ]; rfl)), ⟨hr.cu, hr.tu, hr.cl, hr.la, hr.k2, hr.k3, hr.k10, hr.k11, hr.k13, (fun _ => ⟨g11, trivial⟩), hr.f0, hr.f1, hr.f2, hr.f3, hr.f4, hr.f5, hr.f6, hr.f7, hr.f8, hr.f9, hr.f10, hr.f11, hr.f13, (fun _ => ⟨y, rfl, rfl⟩)⟩⟩ (if_pos rfl) (fun j hj => if_neg hj)
    · rintro a' w' ℓ ℓ' hℓ hI
      rw [← show ℓ = ℓ' from funext hℓ]
      exact hI
  · intro ℓ a' w' i o hI ho hi hL hdep K hK
    obtain ⟨x22, x23, x24, x25, x26, x27, x28, x29, x30, x31, x32, x33, x34, x35, rfl, hr⟩ := hI
    have hi7 : i < 15 := hi
    have hcs : i = 0 ∨ i = 1 ∨ i = 2 ∨ i = 3 ∨ i = 4 ∨ i = 5 ∨ i = 6 ∨ i = 7 ∨ i = 8 ∨ i = 9 ∨ i = 10 ∨ i = 11 ∨ i = 12 ∨ i = 13 ∨ i = 14 := by omega
    clear hi hi7
    rcases hcs with rfl | rfl | rfl | rfl | rfl | rfl | rfl | rfl | rfl | rfl | rfl | rfl | rfl | rfl | rfl
    · revert hK
      obtain rfl := Option.some.inj ho
      clear hdep ho
      have hlS : ℓ 14 = false := by
        cases h7 : ℓ 14
        · rfl
        · have := (hr.cl h7).1; rw [this] at hL; cases hL
      have hc := hr.cu hlS
      have ht := hr.tu hlS
      intro hK
      rw [if_pos (by rfl)]
      try simp only [Act.put, List.setIfInBounds_toArray, List.set_cons_zero, List.set_cons_succ]
      go_simp
      exact hK.out _ _ (fun j => if j = 0 then true else ℓ j) ⟨(.pointer (some ⟨VB, 18, none⟩)), x23, x24, x25, x26, x27, x28, x29, x30, x31, x32, x33, x34, x35, (by first | (simp only [Act.put, List.setIfInBounds_toArray, List.set_cons_zero, List.set_cons_succ]; done) | (simp only [Act.put, List.setIfInBounds_toArray, List.set_cons_zero, List.set_cons_succ]; rfl)), ⟨hr.cu, hr.tu, (fun g7 => absurd (hlS.symm.trans g7) Bool.false_ne_true), (fun g7 => absurd (hlS.symm.trans g7) Bool.false_ne_true), (fun g7 => ⟨rfl, trivial⟩), hr.k4, hr.k6, hr.k7, hr.k8, hr.k10, hr.k11, hr.k12, hr.k13, (fun _ => rfl), hr.f1, hr.f2, hr.f3, hr.f4, hr.f5, hr.f6, hr.f7, hr.f8, hr.f9, hr.f10, hr.f11, hr.f12, hr.f13⟩⟩ (if_pos rfl) (fun j hj => if_neg hj)
    · revert hK
      obtain rfl := Option.some.inj ho
      have g0 : ℓ 0 = true := hdep { on := 0, ground := Ground.data } (by simp) rfl
      clear hdep ho
      have hlS : ℓ 14 = false := by
        cases h7 : ℓ 14
        · rfl
        · have := (hr.cl h7).2.1; rw [this] at hL; cases hL
      have hc := hr.cu hlS
      have ht := hr.tu hlS
      obtain rfl := hr.f0 g0
      intro hK
      rw [if_pos (by rfl)]
      try simp only [Act.put, List.setIfInBounds_toArray, List.set_cons_zero, List.set_cons_succ]
      have cc := (show w'.cell? ⟨VB, 18, none⟩ = some (.slice (some ⟨g, 0, none⟩) ad.sn ad.sc) from by rw [← HSA.out]; exact (HPN.out.turn HPB.out hc ht).rv.cell 18 rfl)
      go_simp
      exact hK.out _ _ (fun j => if j = 1 then true else ℓ j) ⟨(.pointer (some ⟨VB, 18, none⟩)), (.slice (some ⟨g, 0, none⟩) ad.sn ad.sc), x24, x25, x26, x27, x28, x29, x30, x31, x32, x33, x34, x35, (by first | (simp only [Act.put, List.setIfInBounds_toArray, List.set_cons_zero, List.set_cons_succ]; done) | (simp only [Act.put, List.setIfInBounds_toArray, List.set_cons_zero, List.set_cons_succ]; rfl)), ⟨hr.cu, hr.tu, (fun g7 => absurd (hlS.symm.trans g7) Bool.false_ne_true), (fun g7 => absurd (hlS.symm.trans g7) Bool.false_ne_true), (fun _ => ⟨g0, trivial⟩), hr.k4, hr.k6, hr.k7, hr.k8, hr.k10, hr.k11, (fun g7 => ⟨rfl, (hr.k12 g7).2.1, trivial⟩), hr.k13, hr.f0, (fun _ => rfl), hr.f2, hr.f3, hr.f4, hr.f5, hr.f6, hr.f7, hr.f8, hr.f9, hr.f10, hr.f11, hr.f12, hr.f13⟩⟩ (if_pos rfl) (fun j hj => if_neg hj)
    · revert hK
      obtain rfl := Option.some.inj ho
      clear hdep ho
      have hlS : ℓ 14 = false := by
        cases h7 : ℓ 14
        · rfl
        · have := (hr.cl h7).2.2.1; rw [this] at hL; cases hL
      have hc := hr.cu hlS
      have ht := hr.tu hlS
      intro hK
      rw [if_pos (by rfl)]
      try simp only [Act.put, List.setIfInBounds_toArray, List.set_cons_zero, List.set_cons_succ]
      go_simp
      exact hK.out _ _ (fun j => if j = 2 then true else ℓ j) ⟨x22, x23, (.int .i64 (li : Int)), x25, x26, x27, x28, x29, x30, x31, x32, x33, x34, x35, (by first | (simp only [Act.put, List.setIfInBounds_toArray, List.set_cons_zero, List.set_cons_succ]; done) | (simp only [Act.put, List.setIfInBounds_toArray, List.set_cons_zero, List.set_cons_succ]; rfl)), ⟨hr.cu, hr.tu, (fun g7 => absurd (hlS.symm.trans g7) Bool.false_ne_true), (fun g7 => absurd (hlS.symm.trans g7) Bool.false_ne_true), hr.k1, hr.k4, hr.k6, hr.k7, hr.k8, hr.k10, hr.k11, (fun g7 => ⟨(hr.k12 g7).1, rfl, trivial⟩), hr.k13, hr.f0, hr.f1, (fun _ => rfl), hr.f3, hr.f4, hr.f5, hr.f6, hr.f7, hr.f8, hr.f9, hr.f10, hr.f11, hr.f12, hr.f13⟩⟩ (if_pos rfl) (fun j hj => if_neg hj)
    · revert hK
      obtain rfl := Option.some.inj ho
      clear hdep ho
      have hlS : ℓ 14 = false := by
        cases h7 : ℓ 14
        · rfl
        · have := (hr.cl h7).2.2.2.1; rw [this] at hL; cases hL
      have hc := hr.cu hlS
      have ht := hr.tu hlS
      intro hK
      rw [if_pos (by rfl)]
      try simp only [Act.put, List.setIfInBounds_toArray, List.set_cons_zero, List.set_cons_succ]
      go_simp
      exact hK.out _ _ (fun j => if j = 3 then true else ℓ j) ⟨x22, x23, x24, (.pointer (some ⟨VB, 18, none⟩)), x26, x27, x28, x29, x30, x31, x32, x33, x34, x35, (by first | (simp only [Act.put, List.setIfInBounds_toArray, List.set_cons_zero, List.set_cons_succ]; done) | (simp only [Act.put, List.setIfInBounds_toArray, List.set_cons_zero, List.set_cons_succ]; rfl)), ⟨hr.cu, hr.tu, (fun g7 => absurd (hlS.symm.trans g7) Bool.false_ne_true), (fun g7 => absurd (hlS.symm.trans g7) Bool.false_ne_true), hr.k1, (fun g7 => ⟨rfl, trivial⟩), hr.k6, hr.k7, hr.k8, hr.k10, hr.k11, hr.k12, hr.k13, hr.f0, hr.f1, hr.f2, (fun _ => rfl), hr.f4, hr.f5, hr.f6, hr.f7, hr.f8, hr.f9, hr.f10, hr.f11, hr.f12, hr.f13⟩⟩ (if_pos rfl) (fun j hj => if_neg hj)
    · revert hK
      obtain rfl := Option.some.inj ho
      have g3 : ℓ 3 = true := hdep { on := 3, ground := Ground.data } (by simp) rfl
      clear hdep ho
      have hlS : ℓ 14 = false := by
        cases h7 : ℓ 14
        · rfl
        · have := (hr.cl h7).2.2.2.2.1; rw [this] at hL; cases hL
      have hc := hr.cu hlS
      have ht := hr.tu hlS
      obtain rfl := hr.f3 g3
      intro hK
      rw [if_pos (by rfl)]
      try simp only [Act.put, List.setIfInBounds_toArray, List.set_cons_zero, List.set_cons_succ]
      have cc := (show w'.cell? ⟨VB, 18, none⟩ = some (.slice (some ⟨g, 0, none⟩) ad.sn ad.sc) from by rw [← HSA.out]; exact (HPN.out.turn HPB.out hc ht).rv.cell 18 rfl)
      go_simp
      exact hK.out _ _ (fun j => if j = 4 then true else ℓ j) ⟨x22, x23, x24, (.pointer (some ⟨VB, 18, none⟩)), (.slice (some ⟨g, 0, none⟩) ad.sn ad.sc), x27, x28, x29, x30, x31, x32, x33, x34, x35, (by first | (simp only [Act.put, List.setIfInBounds_toArray, List.set_cons_zero, List.set_cons_succ]; done) | (simp only [Act.put, List.setIfInBounds_toArray, List.set_cons_zero, List.set_cons_succ]; rfl)), ⟨hr.cu, hr.tu, (fun g7 => absurd (hlS.symm.trans g7) Bool.false_ne_true), (fun g7 => absurd (hlS.symm.trans g7) Bool.false_ne_true), hr.k1, (fun _ => ⟨g3, trivial⟩), (fun g7 => ⟨rfl, (hr.k6 g7).2.1, trivial⟩), hr.k7, hr.k8, hr.k10, hr.k11, hr.k12, hr.k13, hr.f0, hr.f1, hr.f2, hr.f3, (fun _ => rfl), hr.f5, hr.f6, hr.f7, hr.f8, hr.f9, hr.f10, hr.f11, hr.f12, hr.f13⟩⟩ (if_pos rfl) (fun j hj => if_neg hj)
    · revert hK
      obtain rfl := Option.some.inj ho
      clear hdep ho
      have hlS : ℓ 14 = false := by
        cases h7 : ℓ 14
        · rfl
        · have := (hr.cl h7).2.2.2.2.2.1; rw [this] at hL; cases hL
      have hc := hr.cu hlS
      have ht := hr.tu hlS
      intro hK
      rw [if_pos (by rfl)]
      try simp only [Act.put, List.setIfInBounds_toArray, List.set_cons_zero, List.set_cons_succ]
      go_simp
      exact hK.out _ _ (fun j => if j = 5 then true else ℓ j) ⟨x22, x23, x24, x25, x26, (.int .i64 (li : Int)), x28, x29, x30, x31, x32, x33, x34, x35, (by first | (simp only [Act.put, List.setIfInBounds_toArray, List.set_cons_zero, List.set_cons_succ]; done) | (simp only [Act.put, List.setIfInBounds_toArray, List.set_cons_zero, List.set_cons_succ]; rfl)), ⟨hr.cu, hr.tu, (fun g7 => absurd (hlS.symm.trans g7) Bool.false_ne_true), (fun g7 => absurd (hlS.symm.trans g7) Bool.false_ne_true), hr.k1, hr.k4, (fun g7 => ⟨(hr.k6 g7).1, rfl, trivial⟩), hr.k7, hr.k8, hr.k10, hr.k11, hr.k12, hr.k13, hr.f0, hr.f1, hr.f2, hr.f3, hr.f4, (fun _ => rfl), hr.f6, hr.f7, hr.f8, hr.f9, hr.f10, hr.f11, hr.f12, hr.f13⟩⟩ (if_pos rfl) (fun j hj => if_neg hj)
    · revert hK
      obtain rfl := Option.some.inj ho
      have g4 : ℓ 4 = true := hdep { on := 4, ground := Ground.data } (by simp) rfl
      have g5 : ℓ 5 = true := hdep { on := 5, ground := Ground.data } (by simp) rfl
      clear hdep ho
      have hlS : ℓ 14 = false := by
        cases h7 : ℓ 14
        · rfl
        · have := (hr.cl h7).2.2.2.2.2.2.1; rw [this] at hL; cases hL
      have hc := hr.cu hlS
      have ht := hr.tu hlS
      obtain rfl := hr.f4 g4
      obtain rfl := hr.f5 g5
      intro hK
      rw [if_pos (by rfl)]
      try simp only [Act.put, List.setIfInBounds_toArray, List.set_cons_zero, List.set_cons_succ]
      have hli := HLI.out
      go_simp
      exact hK.out _ _ (fun j => if j = 6 then true else ℓ j) ⟨x22, x23, x24, x25, (.slice (some ⟨g, 0, none⟩) ad.sn ad.sc), (.int .i64 (li : Int)), (.pointer (some ⟨g, li * 3, none⟩)), x29, x30, x31, x32, x33, x34, x35, (by first | (simp only [Act.put, List.setIfInBounds_toArray, List.set_cons_zero, List.set_cons_succ]; done) | (simp only [Act.put, List.setIfInBounds_toArray, List.set_cons_zero, List.set_cons_succ]; rfl)), ⟨hr.cu, hr.tu, (fun g7 => absurd (hlS.symm.trans g7) Bool.false_ne_true), (fun g7 => absurd (hlS.symm.trans g7) Bool.false_ne_true), hr.k1, hr.k4, (fun _ => ⟨g4, g5, trivial⟩), (fun g7 => ⟨rfl, trivial⟩), hr.k8, hr.k10, hr.k11, hr.k12, hr.k13, hr.f0, hr.f1, hr.f2, hr.f3, hr.f4, hr.f5, (fun _ => rfl), hr.f7, hr.f8, hr.f9, hr.f10, hr.f11, hr.f12, hr.f13⟩⟩ (if_pos rfl) (fun j hj => if_neg hj)
    · revert hK
      obtain rfl := Option.some.inj ho
      have g6 : ℓ 6 = true := hdep { on := 6, ground := Ground.data } (by simp) rfl
      clear hdep ho
      have hlS : ℓ 14 = false := by
        cases h7 : ℓ 14
        · rfl
        · have := (hr.cl h7).2.2.2.2.2.2.2.1; rw [this] at hL; cases hL
      have hc := hr.cu hlS
      have ht := hr.tu hlS
      obtain rfl := hr.f6 g6
      intro hK
      rw [if_pos (by rfl)]
      try simp only [Act.put, List.setIfInBounds_toArray, List.set_cons_zero, List.set_cons_succ]
      go_simp
      exact hK.out _ _ (fun j => if j = 7 then true else ℓ j) ⟨x22, x23, x24, x25, x26, x27, (.pointer (some ⟨g, li * 3, none⟩)), (.pointer (some ⟨g, li * 3 + 2, none⟩)), x30, x31, x32, x33, x34, x35, (by first | (simp only [Act.put, List.setIfInBounds_toArray, List.set_cons_zero, List.set_cons_succ]; done) | (simp only [Act.put, List.setIfInBounds_toArray, List.set_cons_zero, List.set_cons_succ]; rfl)), ⟨hr.cu, hr.tu, (fun g7 => absurd (hlS.symm.trans g7) Bool.false_ne_true), (fun g7 => absurd (hlS.symm.trans g7) Bool.false_ne_true), hr.k1, hr.k4, hr.k6, (fun _ => ⟨g6, trivial⟩), (fun g7 => ⟨rfl, trivial⟩), hr.k10, hr.k11, hr.k12, hr.k13, hr.f0, hr.f1, hr.f2, hr.f3, hr.f4, hr.f5, hr.f6, (fun _ => rfl), hr.f8, hr.f9, hr.f10, hr.f11, hr.f12, hr.f13⟩⟩ (if_pos rfl) (fun j hj => if_neg hj)
    · revert hK
      obtain rfl := Option.some.inj ho
      have g7 : ℓ 7 = true := hdep { on := 7, ground := Ground.data } (by simp) rfl
      clear hdep ho
      have hlS : ℓ 14 = false := by
        cases h7 : ℓ 14
        · rfl
        · have := (hr.cl h7).2.2.2.2.2.2.2.2.1; rw [this] at hL; cases hL
      have hc := hr.cu hlS
      have ht := hr.tu hlS
      obtain rfl := hr.f7 g7
      intro hK
      rw [if_pos (by rfl)]
      try simp only [Act.put, List.setIfInBounds_toArray, List.set_cons_zero, List.set_cons_succ]
      have cc := (HSX.out _ (HPN.out.turn HPB.out hc ht)).1
      go_simp
      exact hK.out _ _ (fun j => if j = 8 then true else ℓ j) ⟨x22, x23, x24, x25, x26, x27, x28, (.pointer (some ⟨g, li * 3 + 2, none⟩)), (.int .i64 x3), x31, x32, x33, x34, x35, (by first | (simp only [Act.put, List.setIfInBounds_toArray, List.set_cons_zero, List.set_cons_succ]; done) | (simp only [Act.put, List.setIfInBounds_toArray, List.set_cons_zero, List.set_cons_succ]; rfl)), ⟨hr.cu, hr.tu, (fun g7 => absurd (hlS.symm.trans g7) Bool.false_ne_true), (fun g7 => absurd (hlS.symm.trans g7) Bool.false_ne_true), hr.k1, hr.k4, hr.k6, hr.k7, (fun _ => ⟨g7, trivial⟩), hr.k10, (fun g7 => ⟨rfl, (hr.k11 g7).2.1, trivial⟩), hr.k12, hr.k13, hr.f0, hr.f1, hr.f2, hr.f3, hr.f4, hr.f5, hr.f6, hr.f7, (fun _ => rfl), hr.f9, hr.f10, hr.f11, hr.f12, hr.f13⟩⟩ (if_pos rfl) (fun j hj => if_neg hj)
    · revert hK
      obtain rfl := Option.some.inj ho
      clear hdep ho
      have hlS : ℓ 14 = false := by
        cases h7 : ℓ 14
        · rfl
        · have := (hr.cl h7).2.2.2.2.2.2.2.2.2.1; rw [this] at hL; cases hL
      have hc := hr.cu hlS
      have ht := hr.tu hlS
      intro hK
      rw [if_pos (by rfl)]
      try simp only [Act.put, List.setIfInBounds_toArray, List.set_cons_zero, List.set_cons_succ]
      go_simp
      exact hK.out _ _ (fun j => if j = 9 then true else ℓ j) ⟨x22, x23, x24, x25, x26, x27, x28, x29, x30, (.pointer (some ⟨B, 0, none⟩)), x32, x33, x34, x35, (by first | (simp only [Act.put, List.setIfInBounds_toArray, List.set_cons_zero, List.set_cons_succ]; done) | (simp only [Act.put, List.setIfInBounds_toArray, List.set_cons_zero, List.set_cons_succ]; rfl)), ⟨hr.cu, hr.tu, (fun g7 => absurd (hlS.symm.trans g7) Bool.false_ne_true), (fun g7 => absurd (hlS.symm.trans g7) Bool.false_ne_true), hr.k1, hr.k4, hr.k6, hr.k7, hr.k8, (fun g7 => ⟨rfl, trivial⟩), hr.k11, hr.k12, hr.k13, hr.f0, hr.f1, hr.f2, hr.f3, hr.f4, hr.f5, hr.f6, hr.f7, hr.f8, (fun _ => rfl), hr.f10, hr.f11, hr.f12, hr.f13⟩⟩ (if_pos rfl) (fun j hj => if_neg hj)
    · revert hK
      obtain rfl := Option.some.inj ho
      have g9 : ℓ 9 = true := hdep { on := 9, ground := Ground.data } (by simp) rfl
      clear hdep ho
      have hlS : ℓ 14 = false := by
        cases h7 : ℓ 14
        · rfl
        · have := (hr.cl h7).2.2.2.2.2.2.2.2.2.2.1; rw [this] at hL; cases hL
      have hc := hr.cu hlS
      have ht := hr.tu hlS
      obtain rfl := hr.f9 g9
      intro hK
      rw [if_pos (by rfl)]
      try simp only [Act.put, List.setIfInBounds_toArray, List.set_cons_zero, List.set_cons_succ]
      go_simp
      refine (draw_below w' B a zs cap 800 hc (by omega) (by omega)).mono ?_
      rintro e w9 ⟨y, rfl, hy0, hy1, hc9, ht9⟩
      have hyy := And.intro hy0 hy1
      exact hK.out _ _ (fun j => if j = 10 then true else ℓ j) ⟨x22, x23, x24, x25, x26, x27, x28, x29, x30, (.pointer (some ⟨B, 0, none⟩)), (.int .i64 y), x33, x34, x35, (by first | (simp only [Act.put, List.setIfInBounds_toArray, List.set_cons_zero, List.set_cons_succ]; done) | (simp only [Act.put, List.setIfInBounds_toArray, List.set_cons_zero, List.set_cons_succ]; rfl)), ⟨(fun _ => hc9), (fun _ => ht.trans ht9), (fun g7 => absurd (hlS.symm.trans g7) Bool.false_ne_true), (fun g7 => absurd (hlS.symm.trans g7) Bool.false_ne_true), hr.k1, hr.k4, hr.k6, hr.k7, hr.k8, (fun _ => ⟨g9, trivial⟩), (fun g7 => ⟨(hr.k11 g7).1, rfl, trivial⟩), hr.k12, hr.k13, hr.f0, hr.f1, hr.f2, hr.f3, hr.f4, hr.f5, hr.f6, hr.f7, hr.f8, hr.f9, (fun _ => ⟨y, rfl, hyy⟩), (fun g7 => absurd (hL.symm.trans ((hr.k11 g7).2.1)) Bool.false_ne_true), hr.f12, hr.f13⟩⟩ (if_pos rfl) (fun j hj => if_neg hj)
    · revert hK
      obtain rfl := Option.some.inj ho
      have g8 : ℓ 8 = true := hdep { on := 8, ground := Ground.data } (by simp) rfl
      have g10 : ℓ 10 = true := hdep { on := 10, ground := Ground.data } (by simp) rfl
      clear hdep ho
      have hlS : ℓ 14 = false := by
        cases h7 : ℓ 14
        · rfl
        · have := (hr.cl h7).2.2.2.2.2.2.2.2.2.2.2.1; rw [this] at hL; cases hL
      have hc := hr.cu hlS
      have ht := hr.tu hlS
      obtain rfl := hr.f8 g8
      obtain ⟨y, rfl, hyy⟩ := hr.f10 g10
      intro hK
      rw [if_pos (by rfl)]
      try simp only [Act.put, List.setIfInBounds_toArray, List.set_cons_zero, List.set_cons_succ]
      go_simp
      exact hK.out _ _ (fun j => if j = 11 then true else ℓ j) ⟨x22, x23, x24, x25, x26, x27, x28, x29, (.int .i64 x3), x31, (.int .i64 y), (.int .i64 (IntKind.i64.wrap (x3 + y))), x34, x35, (by first | (simp only [Act.put, List.setIfInBounds_toArray, List.set_cons_zero, List.set_cons_succ]; done) | (simp only [Act.put, List.setIfInBounds_toArray, List.set_cons_zero, List.set_cons_succ]; rfl)), ⟨hr.cu, hr.tu, (fun g7 => absurd (hlS.symm.trans g7) Bool.false_ne_true), (fun g7 => absurd (hlS.symm.trans g7) Bool.false_ne_true), hr.k1, hr.k4, hr.k6, hr.k7, hr.k8, hr.k10, (fun _ => ⟨g8, g10, trivial⟩), hr.k12, hr.k13, hr.f0, hr.f1, hr.f2, hr.f3, hr.f4, hr.f5, hr.f6, hr.f7, hr.f8, hr.f9, hr.f10, (fun _ => ⟨y, rfl, rfl⟩), hr.f12, hr.f13⟩⟩ (if_pos rfl) (fun j hj => if_neg hj)
    · revert hK
      obtain rfl := Option.some.inj ho
      have g1 : ℓ 1 = true := hdep { on := 1, ground := Ground.data } (by simp) rfl
      have g2 : ℓ 2 = true := hdep { on := 2, ground := Ground.data } (by simp) rfl
      clear hdep ho
      have hlS : ℓ 14 = false := by
        cases h7 : ℓ 14
        · rfl
        · have := (hr.cl h7).2.2.2.2.2.2.2.2.2.2.2.2.1; rw [this] at hL; cases hL
      have hc := hr.cu hlS
      have ht := hr.tu hlS
      obtain rfl := hr.f1 g1
      obtain rfl := hr.f2 g2
      intro hK
      rw [if_pos (by rfl)]
      try simp only [Act.put, List.setIfInBounds_toArray, List.set_cons_zero, List.set_cons_succ]
      have hli := HLI.out
      go_simp
      exact hK.out _ _ (fun j => if j = 12 then true else ℓ j) ⟨x22, (.slice (some ⟨g, 0, none⟩) ad.sn ad.sc), (.int .i64 (li : Int)), x25, x26, x27, x28, x29, x30, x31, x32, x33, (.pointer (some ⟨g, li * 3, none⟩)), x35, (by first | (simp only [Act.put, List.setIfInBounds_toArray, List.set_cons_zero, List.set_cons_succ]; done) | (simp only [Act.put, List.setIfInBounds_toArray, List.set_cons_zero, List.set_cons_succ]; rfl)), ⟨hr.cu, hr.tu, (fun g7 => absurd (hlS.symm.trans g7) Bool.false_ne_true), (fun g7 => absurd (hlS.symm.trans g7) Bool.false_ne_true), hr.k1, hr.k4, hr.k6, hr.k7, hr.k8, hr.k10, hr.k11, (fun _ => ⟨g1, g2, trivial⟩), (fun g7 => ⟨rfl, trivial⟩), hr.f0, hr.f1, hr.f2, hr.f3, hr.f4, hr.f5, hr.f6, hr.f7, hr.f8, hr.f9, hr.f10, hr.f11, (fun _ => rfl), hr.f13⟩⟩ (if_pos rfl) (fun j hj => if_neg hj)
    · revert hK
      obtain rfl := Option.some.inj ho
      have g12 : ℓ 12 = true := hdep { on := 12, ground := Ground.data } (by simp) rfl
      clear hdep ho
      have hlS : ℓ 14 = false := by
        cases h7 : ℓ 14
        · rfl
        · have := (hr.cl h7).2.2.2.2.2.2.2.2.2.2.2.2.2.1; rw [this] at hL; cases hL
      have hc := hr.cu hlS
      have ht := hr.tu hlS
      obtain rfl := hr.f12 g12
      intro hK
      rw [if_pos (by rfl)]
      try simp only [Act.put, List.setIfInBounds_toArray, List.set_cons_zero, List.set_cons_succ]
      go_simp
      exact hK.out _ _ (fun j => if j = 13 then true else ℓ j) ⟨x22, x23, x24, x25, x26, x27, x28, x29, x30, x31, x32, x33, (.pointer (some ⟨g, li * 3, none⟩)), (.pointer (some ⟨g, li * 3 + 2, none⟩)), (by first | (simp only [Act.put, List.setIfInBounds_toArray, List.set_cons_zero, List.set_cons_succ]; done) | (simp only [Act.put, List.setIfInBounds_toArray, List.set_cons_zero, List.set_cons_succ]; rfl)), ⟨hr.cu, hr.tu, (fun g7 => absurd (hlS.symm.trans g7) Bool.false_ne_true), (fun g7 => absurd (hlS.symm.trans g7) Bool.false_ne_true), hr.k1, hr.k4, hr.k6, hr.k7, hr.k8, hr.k10, hr.k11, hr.k12, (fun _ => ⟨g12, trivial⟩), hr.f0, hr.f1, hr.f2, hr.f3, hr.f4, hr.f5, hr.f6, hr.f7, hr.f8, hr.f9, hr.f10, hr.f11, hr.f12, (fun _ => rfl)⟩⟩ (if_pos rfl) (fun j hj => if_neg hj)
    · revert hK
      obtain rfl := Option.some.inj ho
      have g13 : ℓ 13 = true := hdep { on := 13, ground := Ground.data } (by simp) rfl
      have g11 : ℓ 11 = true := hdep { on := 11, ground := Ground.data } (by simp) rfl
      clear hdep ho
      have hc := hr.cu hL
      have ht := hr.tu hL
      have g12 : ℓ 12 = true := (hr.k13 g13).1
      have g8 : ℓ 8 = true := (hr.k11 g11).1
      have g10 : ℓ 10 = true := (hr.k11 g11).2.1
      have g1 : ℓ 1 = true := (hr.k12 g12).1
      have g2 : ℓ 2 = true := (hr.k12 g12).2.1
      have g7 : ℓ 7 = true := (hr.k8 g8).1
      have g9 : ℓ 9 = true := (hr.k10 g10).1
      have g0 : ℓ 0 = true := (hr.k1 g1).1
      have g6 : ℓ 6 = true := (hr.k7 g7).1
      have g4 : ℓ 4 = true := (hr.k6 g6).1
      have g5 : ℓ 5 = true := (hr.k6 g6).2.1
      have g3 : ℓ 3 = true := (hr.k4 g4).1
      obtain ⟨y, ey, rfl⟩ := hr.f11 g11
      obtain rfl := ey
      obtain rfl := hr.f13 g13
      intro hK
      rw [if_pos (by rfl)]
      try simp only [Act.put, List.setIfInBounds_toArray, List.set_cons_zero, List.set_cons_succ]
      have cc := (HSX.out _ (HPN.out.turn HPB.out hc ht)).1
      have cf := (HSX.out _ (HPN.out.turn HPB.out hc ht)).2.1
      go_simp
      exact hK.out _ _ (fun j => if j = 14 then true else ℓ j) ⟨x22, x23, x24, x25, x26, x27, x28, x29, x30, x31, (.int .i64 y), (.int .i64 (IntKind.i64.wrap (x3 + y))), x34, (.pointer (some ⟨g, li * 3 + 2, none⟩)), (by first | (simp only [Act.put, List.setIfInBounds_toArray, List.set_cons_zero, List.set_cons_succ]; done) | (simp only [Act.put, List.setIfInBounds_toArray, List.set_cons_zero, List.set_cons_succ]; rfl)), ⟨(fun g => by cases g), (fun g => by cases g), (fun _ => ⟨g0, g1, g2, g3, g4, g5, g6, g7, g8, g9, g10, g11, g12, g13, trivial⟩), (fun _ => ⟨w', hc, ht, rfl⟩), hr.k1, hr.k4, hr.k6, hr.k7, hr.k8, hr.k10, hr.k11, hr.k12, hr.k13, hr.f0, hr.f1, hr.f2, hr.f3, hr.f4, hr.f5, hr.f6, hr.f7, hr.f8, hr.f9, hr.f10, hr.f11, hr.f12, hr.f13⟩⟩ (if_pos rfl) (fun j hj => if_neg hj)
  · rintro a' w' ℓ ℓ' hℓ hI
    rw [← show ℓ = ℓ' from funext hℓ]
    exact hI
end Go.Proofs.YtlomcdgfcocmmaaGreatDoor
namespace Go.Proofs.YtlomcdgfcocmmaaGreatDoor
open Go.ChangeShapes Go.WideShapes Go.ChangeAt Go.RowKit Go.Deep Go.Joins
set_option linter.unusedVariables false
theorem walk_even (a : Option Addr) (zs : List Int) (cap n : Nat) (w : World) (hs : Seg .u8 w a zs) (hb : ∀ z ∈ zs, (Lit.int .u8 z).wf = true) (hl : zs.length = n) (he : TabE w) :
    Calls Tryz.prog 4 #[.slice a n cap] w fun e w' => e = .returned (.bool true) ∧ Below w.heap.size w w' :=
  walk_even0 a cap n w (fun hn => (draw_even w a zs cap n hs hb hl hn).mono fun e w' ⟨T, A, x, f, h1, h2, h3, h4⟩ => ⟨T, A, x, f, h1, ⟨h2.t, h2.w, h2.s, h2.c1, h2.c2, h3⟩, h4⟩) he
end Go.Proofs.YtlomcdgfcocmmaaGreatDoor
