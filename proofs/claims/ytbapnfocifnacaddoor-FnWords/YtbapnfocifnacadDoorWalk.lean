/-
  The walk of the law on words. Conditions: the library's table of powers of ten holds what the program's text lays.
-/
import Derived.Test.YtbapnfocifnacadDoorBack
namespace Go.Proofs.YtbapnfocifnacadDoor
open Go.ChangeShapes Go.WideShapes Go.ChangeAt Go.RowKit Go.Deep
set_option linter.unusedVariables false

theorem tab_below {w w' : World} (h : Lib.TabIs Tryd.prog w "internal/strconv.uint64pow10" .u64 Lib.pow10Tab) (hb : Below w.heap.size w w') (hl : 0 < w.heap.size) : Lib.TabIs Tryd.prog w' "internal/strconv.uint64pow10" .u64 Lib.pow10Tab :=
  var?_below (g := 0) hb (by kernel_rfl) hl h
theorem fixT (x : Int) : ∃ s : ByteArray, Hid (s = Tx.txt (Wd.hexL x 8)) := ⟨_, rfl⟩
theorem fixD (x : Int) : ∃ s : ByteArray, Hid (s = Tx.txt (Dc.dect (-x))) := ⟨_, rfl⟩
theorem hex_size (x : Int) : (Tx.txt (Wd.hexL x 8)).size = 8 := by rw [Tx.txt_size, Wd.hexL_len]
theorem fixS (x k : Int) (h1 : 1 ≤ k) (h2 : k ≤ 32) : ∃ s : Int, 0 ≤ s ∧ s ≤ 4294967295 ∧ Hid (((Wd.sext x.toNat k.toNat : Nat) : Int) = s) ∧ Hid (((Wd.sext s.toNat k.toNat : Nat) : Int) = s) ∧ Hid (s / 2147483648 = ((x.toNat / 2 ^ (k - 1).toNat % 2 : Nat) : Int)) := by
  have hl := Wd.sext_lt x.toNat k.toNat
  refine ⟨((Wd.sext x.toNat k.toNat : Nat) : Int), by omega, by omega, rfl, ?_, ?_⟩
  · show _ = _
    rw [Int.toNat_natCast, Wd.sext_idem _ _ (by omega) (by omega)]
  · show _ = _
    have := Wd.sext_top x.toNat k.toNat (by omega) (by omega)
    rw [show (k - 1).toNat = k.toNat - 1 by omega, ← this]
    omega
theorem low1 (x : Int) (j : Nat) (h0 : 0 ≤ x) (h1 : x ≤ 4294967295) : bits .and .u32 (x / 2 ^ j) 1 = ((x.toNat / 2 ^ j % 2 : Nat) : Int) := by
  obtain ⟨X, rfl⟩ := Int.eq_ofNat_of_zero_le h0
  have e : (X : Int) / 2 ^ j = ((X / 2 ^ j : Nat) : Int) := by simp
  have hle : X / 2 ^ j ≤ X := Nat.div_le_self _ _
  rw [e, Int.toNat_natCast]
  generalize X / 2 ^ j = Y at hle
  rw [u32_and _ _ (by omega) (by omega) (by omega) (by omega), Int.toNat_natCast]
  have := Nat.and_two_pow_sub_one_eq_mod Y 1
  show ((Y &&& 1 : Nat) : Int) = _
  rw [show (1 : Nat) = 2 ^ 1 - 1 by decide, this]
theorem int_bytes (x : Int) (h0 : 0 ≤ x) (h1 : x ≤ 4294967295) : x % 256 + 256 * (x / 256 % 256) + 65536 * (x / 65536 % 256) + 16777216 * (x / 16777216) = x := by omega

set_option maxHeartbeats 2000000 in
theorem words_walk (w : World) (a : Option Addr) (zs : List Int) (cap : Nat) (hs : Seg .u8 w a zs) (hb : ∀ z ∈ zs, (Lit.int .u8 z).wf = true) (hn : zs.length ≤ 1048576) (htab : Lib.TabIs Tryd.prog w "internal/strconv.uint64pow10" .u64 Lib.pow10Tab) (hpos : 0 < w.heap.size) :
    Calls Tryd.prog 3 #[.slice a zs.length cap] w fun e w' => e = .returned (.bool true) ∧ Below w.heap.size w w' := by
  have HB : Hid _ := hb
  have HT : Hid _ := htab
  clear hb htab
  go_enter Tryd.func3, Tryd.ntmps3
  go_wp2_with fail
  refine (big_no _ _ _ _ hn).mono ?_
  rintro e wq ⟨rfl, hwq⟩
  rw [hwq]
  clear hwq wq
  go_wp2_with fail
  refine (draw_rot _ _ _ _ hs HB.out hn).mono ?_
  rintro e w1 ⟨x, n, rfl, hx0, hx1, hn0, hn1, hb1⟩
  have hs1 := hs.below hb1
  clear hs
  go_wp2_with fail
  refine (rotword_any _ _ _ hx0 hx1).mono ?_
  rintro e w2 ⟨y, rfl, hy0, hy1, HY, m2, rfl⟩
  go_wp2_with fail
  refine (rotword_any _ _ _ hy0 hy1).mono ?_
  rintro e w3 ⟨z, rfl, hz0, hz1, HZ, m3, rfl⟩
  have ez : z = x := Wd.rot_back x n y z hx0 hx1 HY.out HZ.out
  subst ez
  clear HZ
  go_wp2_with fail
  refine (rotword_any _ _ _ hx0 hx1).mono ?_
  rintro e w4 ⟨u, rfl, hu0, hu1, HU, m4, rfl⟩
  have eu : u = y := by
    rw [HU.out, HY.out, show (n + 32) % 32 = n % 32 by omega]
  subst eu
  clear HU
  go_wp2_with fail
  refine (rotword_any _ _ _ hx0 hx1).mono ?_
  rintro e w5 ⟨v, rfl, hv0, hv1, HV, m5, rfl⟩
  have ev : v = u := by rw [HV.out, HY.out]
  subst ev
  clear HV HY
  have hs5 := hs1.drewN (m2 + m3 + m4 + m5)
  have hb5 := below_drewN hb1 (m2 + m3 + m4 + m5)
  have hp5 : 0 < w1.heap.size := Nat.lt_of_lt_of_le hpos hb1.size
  go_wp2_with fail
  generalize w1.drewN (m2 + m3 + m4 + m5) = w5 at hs5 hb5
  clear hs1 hb1 hp5
  refine (impl_bytes z _ hz0 hz1).mono ?_
  rintro e w6 ⟨rfl, hb6, hsz6, ho6⟩
  have HS6 : Hid _ := hsz6
  have hs6 := hs5.below hb6
  have hbw6 : Below w.heap.size w w6 := hb5.trans (hb6.mono hb5.size)
  clear hsz6 hs5 hb5 hb6
  go_wp2_with fail
  refine (impl_word _ 0 _ _ _ _ _ _ ?_ ?_ ?_ ?_ ?_ ?_ ?_ ?_ (ho6.cell 0 (by simp)) (ho6.cell 1 (by simp)) (ho6.cell 2 (by simp)) (ho6.cell 3 (by simp))).mono ?_
  · show 0 ≤ z % 256; omega
  · show z % 256 ≤ 255; omega
  · show 0 ≤ z / 256 % 256; omega
  · show z / 256 % 256 ≤ 255; omega
  · show 0 ≤ z / 65536 % 256; omega
  · show z / 65536 % 256 ≤ 255; omega
  · show 0 ≤ z / 16777216; omega
  · show z / 16777216 ≤ 255; omega
  rintro e w7 ⟨rfl, m7, rfl⟩
  have HI : Hid _ := int_bytes z hz0 hz1
  have hs7 := hs6.drewN m7
  have hb7 := below_drewN hbw6 m7
  generalize w6.drewN m7 = w7 at hs7 hb7 ⊢
  clear hs6 hbw6 ho6
  simp only [List.getD_cons_zero, List.getD_cons_succ]
  rw [HI.out]
  go_wp2_with fail
  refine (impl_hexword _ _ hz0 hz1).mono ?_
  rintro e w8 ⟨rfl, hb8⟩
  obtain ⟨t, HTT⟩ := fixT z
  have HXB : Hid _ := Wd.hex_back z hz0 hz1
  have HXS : Hid _ := hex_size z
  rw [← HTT.out] at HXB HXS ⊢
  have hs8 := hs7.below hb8
  have hbw8 : Below w.heap.size w w8 := hb7.trans (hb8.mono hb7.size)
  clear hs7 hb7 hb8
  go_wp2_with fail
  refine (impl_hexnum t _ HXS.out).mono ?_
  rintro e w9 ⟨rfl, hb9⟩
  rw [HXB.out.1, HXB.out.2]
  have hs9 := hs8.below hb9
  have hbw9 : Below w.heap.size w w9 := hbw8.trans (hb9.mono hbw8.size)
  clear hs8 hb9 hbw8
  have HT9 : Hid _ := tab_below HT.out hbw9 hpos
  go_wp2_with fail
  refine (impl_text (-z) _ (by omega) (by omega) HT9.out).mono ?_
  rintro e w10 ⟨rfl, hb10⟩
  obtain ⟨d, HDD⟩ := fixD z
  have HNB : Hid _ := Dc.num_back z hz0 hz1
  have HNS : Hid _ := Dc.text_small z hz0 hz1
  rw [← HDD.out] at HNB HNS ⊢
  have hs10 := hs9.below hb10
  have hbw10 : Below w.heap.size w w10 := hbw9.trans (hb10.mono hbw9.size)
  clear hs9 hb10 hbw9 HT9
  go_wp2_with fail
  refine (impl_num d 4294967295 _ HNS.out).mono ?_
  rintro e w11 ⟨rfl, hb11⟩
  rw [HNB.out, show tell (some (-z)) = .returned (.tuple #[.int .i64 (-z), .bool true]) from rfl]
  have hs11 := hs10.below hb11
  have hbw11 : Below w.heap.size w w11 := hbw10.trans (hb11.mono hbw10.size)
  clear hs10 hb11 hbw10
  go_wp2_with fail
  refine (impl_bytes z _ hz0 hz1).mono ?_
  rintro e w12 ⟨rfl, hb12, hsz12, ho12⟩
  have HS12 : Hid _ := hsz12
  have hs12 := hs11.below hb12
  have hbw12 : Below w.heap.size w w12 := hbw11.trans (hb12.mono hbw11.size)
  clear hsz12 hs11 hb12 hbw11 ho12
  go_wp2_with fail
  refine (at_any _ _ _ _ _ hs12 HB.out hn (by omega) (by omega)).mono ?_
  rintro e w13 ⟨p, rfl, hp0, hp1, rfl⟩
  obtain ⟨k, hk1, hk2, HK⟩ : ∃ k : Int, 1 ≤ k ∧ k ≤ 32 ∧ Hid (1 + p % 32 = k) := ⟨1 + p % 32, by omega, by omega, rfl⟩
  go_wp2_with fail
  rw [HK.out]
  refine (impl_sext z k _ hz0 hz1 hk1 hk2).mono ?_
  rintro e w14 ⟨rfl, rfl⟩
  obtain ⟨q, hq0, hq1, HQ1, HQ2, HQ3⟩ := fixS z k hk1 hk2
  rw [HQ1.out]
  go_wp2_with fail
  refine (impl_sext q k _ hq0 hq1 hk1 hk2).mono ?_
  rintro e w15 ⟨rfl, rfl⟩
  rw [HQ2.out]
  have hEq : (q / 2147483648 == 1) = (bits BinOp.and IntKind.u32 (z / 2 ^ (k.toNat - 1)) 1 == 1) := by
    rw [HQ3.out, low1 z _ hz0 hz1, show (k - 1).toNat = k.toNat - 1 by omega]
  have HL : Hid (((Wd.sext z.toNat (32 : Int).toNat : Nat) : Int) = z) := by
    show _ = _
    rw [show (32 : Int).toNat = 32 from rfl, Wd.sext_all z.toNat (by omega)]
    omega
  go_wp2_with fail
  refine (impl_sext z 32 _ hz0 hz1 (by omega) (by omega)).mono ?_
  rintro e w16 ⟨rfl, rfl⟩
  rw [HL.out]
  go_wp2
  go_ret
  exact ⟨rfl, hbw12⟩

end Go.Proofs.YtbapnfocifnacadDoor
