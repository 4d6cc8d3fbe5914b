
/-
  The walk of the law on Border: whatever the arguments, it returns true and leaves what lay in memory as it lay. Conditions: the words read as words; lengths are numbers of 64 bits.
-/
import Derived.Test.YtoofjlfbedjbnaaRows
import Derived.WalkKit
import Derived.ProofKit
import Derived.OpenShut
import Derived.Below
import Derived.Carry
import Derived.Test.YtoofjlfbedjbnaaChz
import Derived.Test.YtoofjlfbedjbnaaRgb
import Derived.Test.YtoofjlfbedjbnaaChk
import Derived.Deep.Cut
namespace Go.Proofs.Ytoofjlfbedjbnaa
open Go.ChangeShapes Go.WideShapes Go.ChangeAt Go.RowKit Go.Deep
set_option linter.unusedVariables false
theorem bor_len {k f t d h : Int} {n m : Nat} {zs rs : List Int} {h' : Int} {ys xs : List Int} (g : borF k f t d h (n : Int) (m : Int) zs rs = (h', ys, xs)) (hl : zs.length = n) (hn : n ≤ 1048576) (hlr : rs.length = m) (hm : m ≤ 1048576) : ys.length ≤ 1048576 ∧ xs.length ≤ 1048576 := by
  unfold borF at g
  split at g
  · rename_i hq
    split at g
    · split at g
      · injection g with g1 g2; injection g2 with g2 g3
        rw [← g2, ← g3]; simp; omega
      · injection g with g1 g2; injection g2 with g2 g3
        rw [← g2, ← g3]; omega
    · rename_i hk
      injection g with g1 g2; injection g2 with g2 g3
      rw [← g2, ← g3]
      unfold borOk at hq
      simp only [Bool.and_eq_true] at hq
      have h1 := hq.1.1
      have h2 := hq.1.2
      unfold outOk at h1
      unfold inOk at h2
      rw [if_neg hk] at h1 h2
      simp only [Bool.and_eq_true] at h1 h2
      rcases chOk_k h2.1 with ⟨e, _⟩ | ⟨_, e1, e2⟩
      · exact absurd e hk
      · have g1 := h1.2
        have g2 := h2.2
        simp [inr] at g1 g2
        simp
        omega
  · injection g with g1 g2; injection g2 with g2 g3
    rw [← g2, ← g3]; simp
theorem mark_l (lo hi c1 n k : Nat) (a : Option Addr) (zs : List Int) (w : World) (ho : OE w lo hi a zs) (hl : zs.length = n) (hn : n ≤ 1048576) (hk : k ≤ 1000000000) (hhi : hi ≤ w.heap.size) :
    Calls Try.prog 42 #[.slice a n c1, .int .i64 (k : Int)] w fun e w' => e = .returned (.int .i64 ((k + n : Nat) : Int)) ∧ Betw lo hi w w' ∧ OE w' lo hi a (marksM 4294967296 k n) := by
  obtain ⟨R, hR⟩ := ho
  refine (mark_regs lo hi R c1 k n a zs w hR hl hn hk).mono ?_
  rintro e w' ⟨h1, h2, h3, h4, h5⟩
  refine ⟨h1, ?_, R, h4⟩
  by_cases h0 : n = 0
  · rw [h5 h0]; exact Betw.refl _ _ _
  · have := hR.rng (by omega)
    exact h2.wide this.1 (by omega)

set_option maxRecDepth 20000 in
set_option maxHeartbeats 16000000 in
theorem bor_walk (rk rf rt rd : Int) (hd : Int) (a : Option Addr) (cap n : Nat) (ar : Option Addr) (capr m : Nat) (zs rs : List Int) (w : World) (hs : Seg .u32 w a zs) (hl : zs.length = n) (hn : n ≤ 9223372036854775807) (hsr : Seg .u32 w ar rs) (hlr : rs.length = m) (hm : m ≤ 9223372036854775807) :
    Calls Try.prog 10 #[crw rk rf rt rd, oen hd a n cap, ien ar m capr] w fun e w' => e = .returned (.bool true) ∧ Below w.heap.size w w' := by
  have hrb : n ≤ 9223372036854775807 := hn
  have hrm : m ≤ 9223372036854775807 := hm
  have HS0 : Hid (Seg .u32 w a zs) := hs
  have HL0 : Hid (zs.length = n) := hl
  have HSR : Hid (Seg .u32 w ar rs) := hsr
  have HLR : Hid (rs.length = m) := hlr
  clear hs hl hn hsr hlr hm
  have HB : Hid (Below w.heap.size w (((w.alloc (.cells (crow rk rf rt rd) 23)).alloc (.cells (orow hd a n cap) 30)).alloc (.cells (irow ar m capr) 38))) := (((Below.refl _ w).alloc (Nat.le_refl _) _).alloc (by simp) _).alloc (by simp; omega) _
  have HR : Hid (Bk (((w.alloc (.cells (crow rk rf rt rd) 23)).alloc (.cells (orow hd a n cap) 30)).alloc (.cells (irow ar m capr) 38)) w.heap.size (crow rk rf rt rd)) := ((Bk.new w _ _ _ rfl).alloc _).alloc _
  have HE : Hid (Bk (((w.alloc (.cells (crow rk rf rt rd) 23)).alloc (.cells (orow hd a n cap) 30)).alloc (.cells (irow ar m capr) 38)) (w.heap.size + 1) (orow hd a n cap)) := (Bk.new _ _ _ _ (by simp)).alloc _
  have HI : Hid (Bk (((w.alloc (.cells (crow rk rf rt rd) 23)).alloc (.cells (orow hd a n cap) 30)).alloc (.cells (irow ar m capr) 38)) (w.heap.size + 1 + 1) (irow ar m capr)) := Bk.new _ _ _ _ (by simp)
  go_enter Try.func10, Try.ntmps10
  go_wp2_with fail
  refine Calls.mono (sz_out hd a cap n 1048576 _ hrb (Nat.le_refl _)) ?_
  rintro u w11 ⟨⟨r, rfl, hr⟩, hb11⟩
  replace HB : Hid (Below w.heap.size w _) := HB.out.trans (hb11.mono HB.out.size)
  replace HR : Hid (Bk _ _ _) := Bk.below HR.out hb11
  replace HE : Hid (Bk _ _ _) := Bk.below HE.out hb11
  replace HI : Hid (Bk _ _ _) := Bk.below HI.out hb11
  clear hb11
  rcases hr with hr | ⟨hr, hbig⟩
  · go_wp2
    go_ret
    exact ⟨rfl, HB.out⟩
  obtain ⟨L, HLL⟩ : ∃ L, Hid (1048576 - n = L) := ⟨_, rfl⟩
  rw [HLL.out] at hr
  subst hr
  have hL8 : L ≤ 1048576 := by have := HLL.out; omega
  have hr0 : ¬ ((L : Int) < 0) := by omega
  have i0 := HI.out.cell 0 _ rfl
  go_wp2_with fail
  refine Calls.mono (sz_in ar capr m L _ hrm hL8) ?_
  rintro u w12 ⟨⟨r, rfl, hr⟩, hb12⟩
  clear i0
  replace HB : Hid (Below w.heap.size w _) := HB.out.trans (hb12.mono HB.out.size)
  replace HR : Hid (Bk _ _ _) := Bk.below HR.out hb12
  replace HE : Hid (Bk _ _ _) := Bk.below HE.out hb12
  replace HI : Hid (Bk _ _ _) := Bk.below HI.out hb12
  clear hb12
  rcases hr with hr | ⟨hr, hmbig0⟩
  · go_wp2
    go_ret
    exact ⟨rfl, HB.out⟩
  have hmbig : m ≤ 1048576 := by omega
  have hr1 : ¬ (r < 0) := by omega
  have hrow : w.heap.size + 1 + 1 < w12.heap.size := HI.out.lt
  have TOO : Hid (∀ X, Below w.heap.size w X → Calls Try.prog 19 #[oen hd a n cap] X fun e w' => ∃ a', e = .returned (oen hd a' n n) ∧ Below X.heap.size X w' ∧ OE w' X.heap.size w'.heap.size a' zs) := fun X hX => to_out hd a cap n zs X (HS0.out.below hX) HL0.out hbig
  have TOI : Hid (∀ X, Below w.heap.size w X → Calls Try.prog 24 #[ien ar m capr] X fun e w' => ∃ a', e = .returned (ien a' m m) ∧ Below X.heap.size X w' ∧ OE w' X.heap.size w'.heap.size a' rs) := fun X hX => to_in ar capr m rs X (HSR.out.below hX) HLR.out hmbig
  obtain ⟨rh, ys, xs, HQ⟩ : ∃ rh ys xs, Hid (borF rk rf rt rd hd (n : Int) (m : Int) zs rs = (rh, ys, xs)) := ⟨_, _, _, rfl⟩
  have hyx := bor_len HQ.out HL0.out hbig HLR.out hmbig
  obtain ⟨yl, HYL⟩ : ∃ y, Hid (ys.length = y) := ⟨_, rfl⟩
  obtain ⟨xl, HXL⟩ : ∃ y, Hid (xs.length = y) := ⟨_, rfl⟩
  have hyl : yl ≤ 1048576 := by have := HYL.out; omega
  have hxl : xl ≤ 1048576 := by have := HXL.out; omega
  have SP : Hid (∀ (X : World) a1 a2, Seg .u32 X a1 zs → Seg .u32 X a2 rs → Calls Try.prog 39 #[crw rk rf rt rd, oen hd a1 n n, ien a2 m m] X fun e w' => ∃ p1 c1 p2 c2, e = .returned (.tuple #[oen rh none 0 0, ien p1 yl c1, .slice p2 xl c2]) ∧ Below X.heap.size X w' ∧ OE2 w' X.heap.size p1 ys p2 xs) := fun X a1 a2 h1 h2 => by have g := spec_border rk rf rt rd hd a1 n n a2 m m zs rs rh ys xs X h1 HL0.out hbig h2 HLR.out hmbig HQ; rw [HYL.out, HXL.out] at g; exact g
  have IM : Hid (∀ (X : World) a1 a2, Seg .u32 X a1 zs → Seg .u32 X a2 rs → Calls Try.prog 40 #[crw rk rf rt rd, oen hd a1 n n, ien a2 m m] X fun e w' => ∃ p1 c1 p2 c2, e = .returned (.tuple #[oen rh none 0 0, ien p1 yl c1, .slice p2 xl c2]) ∧ Below X.heap.size X w' ∧ OE2 w' X.heap.size p1 ys p2 xs) := fun X a1 a2 h1 h2 => by have g := impl_border rk rf rt rd hd a1 n n a2 m m zs rs rh ys xs X h1 HL0.out hbig h2 HLR.out hmbig HQ; rw [HYL.out, HXL.out] at g; exact g
  have EQO : Hid (∀ (X : World) a1 a2, Seg .u32 X a1 zs → Seg .u32 X a2 zs → Calls Try.prog 21 #[oen hd a1 n n, oen hd a2 n n] X fun e w' => e = .returned (.bool true) ∧ Below X.heap.size X w') := fun X a1 a2 h1 h2 => eq_out hd a1 a2 n n n zs X h1 h2 HL0.out hbig
  have EQI : Hid (∀ (X : World) a1 a2, Seg .u32 X a1 rs → Seg .u32 X a2 rs → Calls Try.prog 26 #[ien a1 m m, ien a2 m m] X fun e w' => e = .returned (.bool true) ∧ Below X.heap.size X w') := fun X a1 a2 h1 h2 => eq_in a1 a2 m m m rs X h1 h2 HLR.out hmbig
  clear HQ hyx
  try go_wp2
  go_cut [8, 9, 10] from 32 (fun s8 s9 s10 wc => ∃ b8 b9 p1 c1 p2 c2, s8 = Value.pointer (some ⟨b8, 0, none⟩) ∧ s9 = Value.pointer (some ⟨b9, 0, none⟩) ∧ s10 = Value.slice p2 xl c2 ∧ BF w12 wc b8 b9 rh p1 yl c1 ys p2 xs)
  case first =>
    refine wp_region_inv (by kernel_rfl) (by kernel_rfl) (fun A ℓ a' w' => ∃ (a1 a2 p1 : Option Addr) (c1 : Nat) (p2 : Option Addr) (c2 l1 u1 l2 u2 b8 b9 : Nat) (x33 x34 x35 x36 x37 x38 x39 x32 x40 x41 x42 x8 x9 x10 : Value), a' = ((((((((((((((A.put (some 33) x33).put (some 34) x34).put (some 35) x35).put (some 36) x36).put (some 37) x37).put (some 38) x38).put (some 39) x39).put (some 32) x32).put (some 40) x40).put (some 41) x41).put (some 42) x42).put (some 8) x8).put (some 9) x9).put (some 10) x10) ∧ RI w12 rh yl ys xs zs rs (ℓ 3) (ℓ 5) (ℓ 6) (ℓ 11) (ℓ 12) (ℓ 13) (ℓ 14) a1 a2 p1 c1 p2 l1 u1 l2 u2 b8 b9 w' ∧ Hid (ℓ 0 = true → x33 = crw rk rf rt rd) ∧ Hid (ℓ 1 = true → x34 = crw rk rf rt rd) ∧ Hid (ℓ 2 = true → x35 = oen hd a n cap) ∧ Hid (ℓ 3 = true → x36 = oen hd a1 n n) ∧ Hid (ℓ 4 = true → x37 = ien ar m capr) ∧ Hid (ℓ 5 = true → x38 = ien a2 m m) ∧ Hid (ℓ 6 = true → x39 = .tuple #[oen rh none 0 0, ien p1 yl c1, .slice p2 xl c2]) ∧ Hid (ℓ 7 = true → ℓ 6 = true ∧ x32 = .tuple #[oen rh none 0 0, ien p1 yl c1, .slice p2 xl c2]) ∧ Hid (ℓ 8 = true → x40 = oen rh none 0 0) ∧ Hid (ℓ 9 = true → ℓ 6 = true ∧ x41 = ien p1 yl c1) ∧ Hid (ℓ 10 = true → ℓ 6 = true ∧ x42 = .slice p2 xl c2) ∧ Hid (ℓ 11 = true → x8 = .pointer (some ⟨b8, 0, none⟩)) ∧ Hid (ℓ 12 = true → x9 = .pointer (some ⟨b9, 0, none⟩)) ∧ Hid (ℓ 15 = true → ℓ 6 = true ∧ x10 = .slice p2 xl c2)) ?_ ?_ ?_ ?_
    · exact ⟨none, none, none, 0, none, 0, 0, 0, 0, 0, 0, 0, undef, undef, undef, undef, undef, undef, undef, undef, undef, undef, undef, undef, undef, undef, (by simp only [Act.put, List.setIfInBounds_toArray, List.set_cons_zero, List.set_cons_succ]), RI.start (Below.refl _ _).drew _ _ _ _ _ _ _ _ _ _ _, (show _ → _ from fun g => by cases g), (show _ → _ from fun g => by cases g), (show _ → _ from fun g => by cases g), (show _ → _ from fun g => by cases g), (show _ → _ from fun g => by cases g), (show _ → _ from fun g => by cases g), (show _ → _ from fun g => by cases g), (show _ → _ from fun g => by cases g), (show _ → _ from fun g => by cases g), (show _ → _ from fun g => by cases g), (show _ → _ from fun g => by cases g), (show _ → _ from fun g => by cases g), (show _ → _ from fun g => by cases g), (show _ → _ from fun g => by cases g)⟩
    · intro ℓ a' w' hI hall
      obtain ⟨a1, a2, p1, c1, p2, c2, l1, u1, l2, u2, b8, b9, x33, x34, x35, x36, x37, x38, x39, x32, x40, x41, x42, x8, x9, x10, rfl, hr, f0, f1, f2, f3, f4, f5, f6, f7, f8, f9, f10, f11, f12, f15⟩ := hI
      have hall' : ∀ i, i < 16 → ℓ i = true := hall
      have g0 : ℓ 0 = true := hall' 0 (by omega)
      obtain rfl := f0.out g0
      have g1 : ℓ 1 = true := hall' 1 (by omega)
      obtain rfl := f1.out g1
      have g2 : ℓ 2 = true := hall' 2 (by omega)
      obtain rfl := f2.out g2
      have g3 : ℓ 3 = true := hall' 3 (by omega)
      obtain rfl := f3.out g3
      have g4 : ℓ 4 = true := hall' 4 (by omega)
      obtain rfl := f4.out g4
      have g5 : ℓ 5 = true := hall' 5 (by omega)
      obtain rfl := f5.out g5
      have g6 : ℓ 6 = true := hall' 6 (by omega)
      obtain rfl := f6.out g6
      have g7 : ℓ 7 = true := hall' 7 (by omega)
      obtain ⟨_, rfl⟩ := f7.out g7
      have g8 : ℓ 8 = true := hall' 8 (by omega)
      obtain rfl := f8.out g8
      have g9 : ℓ 9 = true := hall' 9 (by omega)
      obtain ⟨_, rfl⟩ := f9.out g9
      have g10 : ℓ 10 = true := hall' 10 (by omega)
      obtain ⟨_, rfl⟩ := f10.out g10
      have g11 : ℓ 11 = true := hall' 11 (by omega)
      obtain rfl := f11.out g11
      have g12 : ℓ 12 = true := hall' 12 (by omega)
      obtain rfl := f12.out g12
      have g15 : ℓ 15 = true := hall' 15 (by omega)
      obtain ⟨_, rfl⟩ := f15.out g15
      rw [g6, g11, g12, hall' 13 (by omega), hall' 14 (by omega)] at hr
      have hF := hr.fin
      clear hr
      simp only [Act.put, List.setIfInBounds_toArray, List.set_cons_zero, List.set_cons_succ]
      go_wp2_with fail
      go_meet
      exact ⟨_, _, _, _, _, _, rfl, rfl, rfl, hF⟩
    · intro ℓ a' w' i o hI ho hi hL hdep K hK
      obtain ⟨a1, a2, p1, c1, p2, c2, l1, u1, l2, u2, b8, b9, x33, x34, x35, x36, x37, x38, x39, x32, x40, x41, x42, x8, x9, x10, rfl, hr, f0, f1, f2, f3, f4, f5, f6, f7, f8, f9, f10, f11, f12, f15⟩ := hI
      have hi16 : i < 16 := hi
      have hcs : i = 0 ∨ i = 1 ∨ i = 2 ∨ i = 3 ∨ i = 4 ∨ i = 5 ∨ i = 6 ∨ i = 7 ∨ i = 8 ∨ i = 9 ∨ i = 10 ∨ i = 11 ∨ i = 12 ∨ i = 13 ∨ i = 14 ∨ i = 15 := by omega
      clear hi hi16
      rcases hcs with rfl | rfl | rfl | rfl | rfl | rfl | rfl | rfl | rfl | rfl | rfl | rfl | rfl | rfl | rfl | rfl
      · obtain rfl := Option.some.inj ho
        clear hdep ho
        rw [if_pos (by rfl)]
        try simp only [Act.put, List.setIfInBounds_toArray, List.set_cons_zero, List.set_cons_succ]
        have q0 : w'.cell? ⟨w.heap.size, 0, none⟩ = some (.int .i64 rk) := kept_c hr.gb (HR.out.cell 0 _ rfl)
        have q1 : w'.cell? ⟨w.heap.size, 1, none⟩ = some (.int .i64 rf) := kept_c hr.gb (HR.out.cell 1 _ rfl)
        have q2 : w'.cell? ⟨w.heap.size, 2, none⟩ = some (.int .i64 rt) := kept_c hr.gb (HR.out.cell 2 _ rfl)
        have q3 : w'.cell? ⟨w.heap.size, 3, none⟩ = some (.int .i64 rd) := kept_c hr.gb (HR.out.cell 3 _ rfl)
        go_simp
        exact hK.out _ _ (fun j => if j = 0 then true else ℓ j) ⟨a1, a2, p1, c1, p2, c2, l1, u1, l2, u2, b8, b9, (crw rk rf rt rd), x34, x35, x36, x37, x38, x39, x32, x40, x41, x42, x8, x9, x10, (by simp only [Act.put, List.setIfInBounds_toArray, List.set_cons_zero, List.set_cons_succ]), hr, (show _ → _ from fun _ => rfl), f1, f2, f3, f4, f5, f6, f7, f8, f9, f10, f11, f12, f15⟩ (if_pos rfl) (fun j hj => if_neg hj)
      · obtain rfl := Option.some.inj ho
        have g0 : ℓ 0 = true := hdep { on := 0, ground := Ground.data } (by simp) rfl
        clear hdep ho
        obtain rfl := f0.out g0
        rw [if_pos (by rfl)]
        try simp only [Act.put, List.setIfInBounds_toArray, List.set_cons_zero, List.set_cons_succ]
        go_simp
        refine Calls.mono (to_row rk rf rt rd _) ?_
        rintro u w1 ⟨rfl, hb1⟩
        exact hK.out _ _ (fun j => if j = 1 then true else ℓ j) ⟨a1, a2, p1, c1, p2, c2, l1, u1, l2, u2, b8, b9, (crw rk rf rt rd), (crw rk rf rt rd), x35, x36, x37, x38, x39, x32, x40, x41, x42, x8, x9, x10, (by simp only [Act.put, List.setIfInBounds_toArray, List.set_cons_zero, List.set_cons_succ]), (hr.below hb1), (show _ → _ from fun _ => rfl), (show _ → _ from fun _ => rfl), f2, f3, f4, f5, f6, f7, f8, f9, f10, f11, f12, f15⟩ (if_pos rfl) (fun j hj => if_neg hj)
      · obtain rfl := Option.some.inj ho
        clear hdep ho
        rw [if_pos (by rfl)]
        try simp only [Act.put, List.setIfInBounds_toArray, List.set_cons_zero, List.set_cons_succ]
        have q0 : w'.cell? ⟨w.heap.size + 1, 0, none⟩ = some (.int .i64 hd) := kept_c hr.gb (HE.out.cell 0 _ rfl)
        have q1 : w'.cell? ⟨w.heap.size + 1, 1, none⟩ = some (.slice a n cap) := kept_c hr.gb (HE.out.cell 1 _ rfl)
        go_simp
        exact hK.out _ _ (fun j => if j = 2 then true else ℓ j) ⟨a1, a2, p1, c1, p2, c2, l1, u1, l2, u2, b8, b9, x33, x34, (oen hd a n cap), x36, x37, x38, x39, x32, x40, x41, x42, x8, x9, x10, (by simp only [Act.put, List.setIfInBounds_toArray, List.set_cons_zero, List.set_cons_succ]), hr, f0, f1, (show _ → _ from fun _ => rfl), f3, f4, f5, f6, f7, f8, f9, f10, f11, f12, f15⟩ (if_pos rfl) (fun j hj => if_neg hj)
      · obtain rfl := Option.some.inj ho
        have g2 : ℓ 2 = true := hdep { on := 2, ground := Ground.data } (by simp) rfl
        clear hdep ho
        obtain rfl := f2.out g2
        rw [if_pos (by rfl)]
        try simp only [Act.put, List.setIfInBounds_toArray, List.set_cons_zero, List.set_cons_succ]
        go_simp
        refine Calls.mono (TOO.out _ (HB.out.trans (hr.gb.mono HB.out.size))) ?_
        rintro u w1 ⟨an, rfl, hb1, ho1⟩
        exact hK.out _ _ (fun j => if j = 3 then true else ℓ j) ⟨an, a2, p1, c1, p2, c2, l1, u1, l2, u2, b8, b9, x33, x34, (oen hd a n cap), (oen hd an n n), x37, x38, x39, x32, x40, x41, x42, x8, x9, x10, (by simp only [Act.put, List.setIfInBounds_toArray, List.set_cons_zero, List.set_cons_succ]), ((hr.below hb1).to1 an (OE.seg ho1)), f0, f1, (show _ → _ from fun _ => rfl), (show _ → _ from fun _ => rfl), f4, f5, f6, f7, f8, f9, f10, f11, f12, f15⟩ (if_pos rfl) (fun j hj => if_neg hj)
      · obtain rfl := Option.some.inj ho
        clear hdep ho
        rw [if_pos (by rfl)]
        try simp only [Act.put, List.setIfInBounds_toArray, List.set_cons_zero, List.set_cons_succ]
        have q0 : w'.cell? ⟨w.heap.size + 1 + 1, 0, none⟩ = some (.slice ar m capr) := kept_c hr.gb (HI.out.cell 0 _ rfl)
        go_simp
        exact hK.out _ _ (fun j => if j = 4 then true else ℓ j) ⟨a1, a2, p1, c1, p2, c2, l1, u1, l2, u2, b8, b9, x33, x34, x35, x36, (ien ar m capr), x38, x39, x32, x40, x41, x42, x8, x9, x10, (by simp only [Act.put, List.setIfInBounds_toArray, List.set_cons_zero, List.set_cons_succ]), hr, f0, f1, f2, f3, (show _ → _ from fun _ => rfl), f5, f6, f7, f8, f9, f10, f11, f12, f15⟩ (if_pos rfl) (fun j hj => if_neg hj)
      · obtain rfl := Option.some.inj ho
        have g4 : ℓ 4 = true := hdep { on := 4, ground := Ground.data } (by simp) rfl
        clear hdep ho
        obtain rfl := f4.out g4
        rw [if_pos (by rfl)]
        try simp only [Act.put, List.setIfInBounds_toArray, List.set_cons_zero, List.set_cons_succ]
        go_simp
        refine Calls.mono (TOI.out _ (HB.out.trans (hr.gb.mono HB.out.size))) ?_
        rintro u w1 ⟨an, rfl, hb1, ho1⟩
        exact hK.out _ _ (fun j => if j = 5 then true else ℓ j) ⟨a1, an, p1, c1, p2, c2, l1, u1, l2, u2, b8, b9, x33, x34, x35, x36, (ien ar m capr), (ien an m m), x39, x32, x40, x41, x42, x8, x9, x10, (by simp only [Act.put, List.setIfInBounds_toArray, List.set_cons_zero, List.set_cons_succ]), ((hr.below hb1).to2 an (OE.seg ho1)), f0, f1, f2, f3, (show _ → _ from fun _ => rfl), (show _ → _ from fun _ => rfl), f6, f7, f8, f9, f10, f11, f12, f15⟩ (if_pos rfl) (fun j hj => if_neg hj)
      · obtain rfl := Option.some.inj ho
        have g1 : ℓ 1 = true := hdep { on := 1, ground := Ground.data } (by simp) rfl
        have g3 : ℓ 3 = true := hdep { on := 3, ground := Ground.data } (by simp) rfl
        have g5 : ℓ 5 = true := hdep { on := 5, ground := Ground.data } (by simp) rfl
        clear hdep ho
        obtain rfl := f1.out g1
        obtain rfl := f3.out g3
        obtain rfl := f5.out g5
        rw [if_pos (by rfl)]
        try simp only [Act.put, List.setIfInBounds_toArray, List.set_cons_zero, List.set_cons_succ]
        go_simp
        refine Calls.mono (SP.out _ a1 a2 (hr.s1 g3 hL) (hr.s2 g5 hL)) ?_
        rintro u w1 ⟨q1, d1, q2, d2, rfl, hb1, ho1⟩
        obtain ⟨m1, v1, m2, v2, hr2⟩ := hr.sp hL hb1 q1 d1 q2 ho1
        exact hK.out _ _ (fun j => if j = 6 then true else ℓ j) ⟨a1, a2, q1, d1, q2, d2, m1, v1, m2, v2, b8, b9, x33, (crw rk rf rt rd), x35, (oen hd a1 n n), x37, (ien a2 m m), (.tuple #[oen rh none 0 0, ien q1 yl d1, .slice q2 xl d2]), x32, x40, x41, x42, x8, x9, x10, (by simp only [Act.put, List.setIfInBounds_toArray, List.set_cons_zero, List.set_cons_succ]), hr2, f0, (show _ → _ from fun _ => rfl), f2, (show _ → _ from fun _ => rfl), f4, (show _ → _ from fun _ => rfl), (show _ → _ from fun _ => rfl), (show _ → _ from fun g => absurd ((f7.out g).1.symm.trans hL) (by decide)), f8, (show _ → _ from fun g => absurd ((f9.out g).1.symm.trans hL) (by decide)), (show _ → _ from fun g => absurd ((f10.out g).1.symm.trans hL) (by decide)), f11, f12, (show _ → _ from fun g => absurd ((f15.out g).1.symm.trans hL) (by decide))⟩ (if_pos rfl) (fun j hj => if_neg hj)
      · obtain rfl := Option.some.inj ho
        have g6 : ℓ 6 = true := hdep { on := 6, ground := Ground.data } (by simp) rfl
        clear hdep ho
        obtain rfl := f6.out g6
        have gc := g6
        rw [if_pos (by rfl)]
        try simp only [Act.put, List.setIfInBounds_toArray, List.set_cons_zero, List.set_cons_succ]
        go_simp
        exact hK.out _ _ (fun j => if j = 7 then true else ℓ j) ⟨a1, a2, p1, c1, p2, c2, l1, u1, l2, u2, b8, b9, x33, x34, x35, x36, x37, x38, (.tuple #[oen rh none 0 0, ien p1 yl c1, .slice p2 xl c2]), (.tuple #[oen rh none 0 0, ien p1 yl c1, .slice p2 xl c2]), x40, x41, x42, x8, x9, x10, (by simp only [Act.put, List.setIfInBounds_toArray, List.set_cons_zero, List.set_cons_succ]), hr, f0, f1, f2, f3, f4, f5, (show _ → _ from fun _ => rfl), (show _ → _ from fun _ => ⟨gc, rfl⟩), f8, f9, f10, f11, f12, f15⟩ (if_pos rfl) (fun j hj => if_neg hj)
      · obtain rfl := Option.some.inj ho
        have g7 : ℓ 7 = true := hdep { on := 7, ground := Ground.data } (by simp) rfl
        clear hdep ho
        have gc := (f7.out g7).1; have hx7 := (f7.out g7).2; clear f7; subst hx7
        rw [if_pos (by rfl)]
        try simp only [Act.put, List.setIfInBounds_toArray, List.set_cons_zero, List.set_cons_succ]
        go_simp
        exact hK.out _ _ (fun j => if j = 8 then true else ℓ j) ⟨a1, a2, p1, c1, p2, c2, l1, u1, l2, u2, b8, b9, x33, x34, x35, x36, x37, x38, x39, (.tuple #[oen rh none 0 0, ien p1 yl c1, .slice p2 xl c2]), (oen rh none 0 0), x41, x42, x8, x9, x10, (by simp only [Act.put, List.setIfInBounds_toArray, List.set_cons_zero, List.set_cons_succ]), hr, f0, f1, f2, f3, f4, f5, f6, (show _ → _ from fun _ => ⟨gc, rfl⟩), (show _ → _ from fun _ => rfl), f9, f10, f11, f12, f15⟩ (if_pos rfl) (fun j hj => if_neg hj)
      · obtain rfl := Option.some.inj ho
        have g7 : ℓ 7 = true := hdep { on := 7, ground := Ground.data } (by simp) rfl
        clear hdep ho
        have gc := (f7.out g7).1; have hx7 := (f7.out g7).2; clear f7; subst hx7
        rw [if_pos (by rfl)]
        try simp only [Act.put, List.setIfInBounds_toArray, List.set_cons_zero, List.set_cons_succ]
        go_simp
        exact hK.out _ _ (fun j => if j = 9 then true else ℓ j) ⟨a1, a2, p1, c1, p2, c2, l1, u1, l2, u2, b8, b9, x33, x34, x35, x36, x37, x38, x39, (.tuple #[oen rh none 0 0, ien p1 yl c1, .slice p2 xl c2]), x40, (ien p1 yl c1), x42, x8, x9, x10, (by simp only [Act.put, List.setIfInBounds_toArray, List.set_cons_zero, List.set_cons_succ]), hr, f0, f1, f2, f3, f4, f5, f6, (show _ → _ from fun _ => ⟨gc, rfl⟩), f8, (show _ → _ from fun _ => ⟨gc, rfl⟩), f10, f11, f12, f15⟩ (if_pos rfl) (fun j hj => if_neg hj)
      · obtain rfl := Option.some.inj ho
        have g7 : ℓ 7 = true := hdep { on := 7, ground := Ground.data } (by simp) rfl
        clear hdep ho
        have gc := (f7.out g7).1; have hx7 := (f7.out g7).2; clear f7; subst hx7
        rw [if_pos (by rfl)]
        try simp only [Act.put, List.setIfInBounds_toArray, List.set_cons_zero, List.set_cons_succ]
        go_simp
        exact hK.out _ _ (fun j => if j = 10 then true else ℓ j) ⟨a1, a2, p1, c1, p2, c2, l1, u1, l2, u2, b8, b9, x33, x34, x35, x36, x37, x38, x39, (.tuple #[oen rh none 0 0, ien p1 yl c1, .slice p2 xl c2]), x40, x41, (.slice p2 xl c2), x8, x9, x10, (by simp only [Act.put, List.setIfInBounds_toArray, List.set_cons_zero, List.set_cons_succ]), hr, f0, f1, f2, f3, f4, f5, f6, (show _ → _ from fun _ => ⟨gc, rfl⟩), f8, f9, (show _ → _ from fun _ => ⟨gc, rfl⟩), f11, f12, f15⟩ (if_pos rfl) (fun j hj => if_neg hj)
      · obtain rfl := Option.some.inj ho
        clear hdep ho
        rw [if_pos (by rfl)]
        try simp only [Act.put, List.setIfInBounds_toArray, List.set_cons_zero, List.set_cons_succ]
        go_simp
        exact hK.out _ _ (fun j => if j = 11 then true else ℓ j) ⟨a1, a2, p1, c1, p2, c2, l1, u1, l2, u2, w'.heap.size, b9, x33, x34, x35, x36, x37, x38, x39, x32, x40, x41, x42, (.pointer (some ⟨w'.heap.size, 0, none⟩)), x9, x10, (by simp only [Act.put, List.setIfInBounds_toArray, List.set_cons_zero, List.set_cons_succ]), (hr.al8 hL _ _ _), f0, f1, f2, f3, f4, f5, f6, f7, f8, f9, f10, (show _ → _ from fun _ => rfl), f12, f15⟩ (if_pos rfl) (fun j hj => if_neg hj)
      · obtain rfl := Option.some.inj ho
        clear hdep ho
        rw [if_pos (by rfl)]
        try simp only [Act.put, List.setIfInBounds_toArray, List.set_cons_zero, List.set_cons_succ]
        go_simp
        exact hK.out _ _ (fun j => if j = 12 then true else ℓ j) ⟨a1, a2, p1, c1, p2, c2, l1, u1, l2, u2, b8, w'.heap.size, x33, x34, x35, x36, x37, x38, x39, x32, x40, x41, x42, x8, (.pointer (some ⟨w'.heap.size, 0, none⟩)), x10, (by simp only [Act.put, List.setIfInBounds_toArray, List.set_cons_zero, List.set_cons_succ]), (hr.al9 hL _ _), f0, f1, f2, f3, f4, f5, f6, f7, f8, f9, f10, f11, (show _ → _ from fun _ => rfl), f15⟩ (if_pos rfl) (fun j hj => if_neg hj)
      · obtain rfl := Option.some.inj ho
        have g11 : ℓ 11 = true := hdep { on := 11, ground := Ground.data } (by simp) rfl
        have g8 : ℓ 8 = true := hdep { on := 8, ground := Ground.data } (by simp) rfl
        have g6 : ℓ 6 = true := hdep { on := 6, ground := Ground.chain } (by simp) rfl
        clear hdep ho
        obtain rfl := f11.out g11
        obtain rfl := f8.out g8
        obtain rfl := f6.out g6
        have gc := g6
        rw [if_pos (by rfl)]
        try simp only [Act.put, List.setIfInBounds_toArray, List.set_cons_zero, List.set_cons_succ]
        rw [g6, g11] at hr
        obtain ⟨_, v0, v1, k8⟩ := hr.k8 rfl
        have q0 := k8.cell 0 _ rfl
        have q1 := k8.cell 1 _ rfl
        have qf := k8.free
        go_simp
        have hr2 := hr.st8
        exact hK.out _ _ (fun j => if j = 13 then true else ℓ j) ⟨a1, a2, p1, c1, p2, c2, l1, u1, l2, u2, b8, b9, x33, x34, x35, x36, x37, x38, (.tuple #[oen rh none 0 0, ien p1 yl c1, .slice p2 xl c2]), x32, (oen rh none 0 0), x41, x42, (.pointer (some ⟨b8, 0, none⟩)), x9, x10, (by simp only [Act.put, List.setIfInBounds_toArray, List.set_cons_zero, List.set_cons_succ]), (by show RI _ _ _ _ _ _ _ _ _ (ℓ 6) (ℓ 11) _ true _ _ _ _ _ _ _ _ _ _ _ _ _; rw [g6, g11]; exact hr2), f0, f1, f2, f3, f4, f5, (show _ → _ from fun _ => rfl), f7, (show _ → _ from fun _ => rfl), f9, f10, (show _ → _ from fun _ => rfl), f12, f15⟩ (if_pos rfl) (fun j hj => if_neg hj)
      · obtain rfl := Option.some.inj ho
        have g12 : ℓ 12 = true := hdep { on := 12, ground := Ground.data } (by simp) rfl
        have g9 : ℓ 9 = true := hdep { on := 9, ground := Ground.data } (by simp) rfl
        have g6 : ℓ 6 = true := hdep { on := 6, ground := Ground.phase } (by simp) rfl
        clear hdep ho
        obtain rfl := f12.out g12
        have gc := (f9.out g9).1; have hx9 := (f9.out g9).2; clear f9; subst hx9
        obtain rfl := f6.out g6
        have gc := g6
        rw [if_pos (by rfl)]
        try simp only [Act.put, List.setIfInBounds_toArray, List.set_cons_zero, List.set_cons_succ]
        rw [g6, g12] at hr
        obtain ⟨_, v0, k9⟩ := hr.k9 rfl
        have q0 := k9.cell 0 _ rfl
        have qf := k9.free
        go_simp
        have hr2 := hr.st9
        exact hK.out _ _ (fun j => if j = 14 then true else ℓ j) ⟨a1, a2, p1, c1, p2, c2, l1, u1, l2, u2, b8, b9, x33, x34, x35, x36, x37, x38, (.tuple #[oen rh none 0 0, ien p1 yl c1, .slice p2 xl c2]), x32, x40, (ien p1 yl c1), x42, x8, (.pointer (some ⟨b9, 0, none⟩)), x10, (by simp only [Act.put, List.setIfInBounds_toArray, List.set_cons_zero, List.set_cons_succ]), (by show RI _ _ _ _ _ _ _ _ _ (ℓ 6) _ (ℓ 12) _ true _ _ _ _ _ _ _ _ _ _ _ _; rw [g6, g12]; exact hr2), f0, f1, f2, f3, f4, f5, (show _ → _ from fun _ => rfl), f7, f8, (show _ → _ from fun _ => ⟨gc, rfl⟩), f10, f11, (show _ → _ from fun _ => rfl), f15⟩ (if_pos rfl) (fun j hj => if_neg hj)
      · obtain rfl := Option.some.inj ho
        have g10 : ℓ 10 = true := hdep { on := 10, ground := Ground.data } (by simp) rfl
        clear hdep ho
        have gc := (f10.out g10).1; have hx10 := (f10.out g10).2; clear f10; subst hx10
        rw [if_pos (by rfl)]
        try simp only [Act.put, List.setIfInBounds_toArray, List.set_cons_zero, List.set_cons_succ]
        go_simp
        exact hK.out _ _ (fun j => if j = 15 then true else ℓ j) ⟨a1, a2, p1, c1, p2, c2, l1, u1, l2, u2, b8, b9, x33, x34, x35, x36, x37, x38, x39, x32, x40, x41, (.slice p2 xl c2), x8, x9, (.slice p2 xl c2), (by simp only [Act.put, List.setIfInBounds_toArray, List.set_cons_zero, List.set_cons_succ]), hr, f0, f1, f2, f3, f4, f5, f6, f7, f8, f9, (show _ → _ from fun _ => ⟨gc, rfl⟩), f11, f12, (show _ → _ from fun _ => ⟨gc, rfl⟩)⟩ (if_pos rfl) (fun j hj => if_neg hj)
    · intro a' w' ℓ ℓ' hℓ hI
      rw [← show ℓ = ℓ' from funext hℓ]
      exact hI
  case rest =>
  obtain ⟨b8, b9, p1, c1, p2, c2, rfl, rfl, rfl, hbf⟩ := hcut
  obtain ⟨WA, hWA⟩ : ∃ W, W = wc := ⟨_, rfl⟩
  subst hWA
  obtain ⟨hbc, kAS, kBS, n8S, n9S, n89S, l1, u1, l2, u2, oAS, oBS, q1S, q2S, q3S, q4S, q5S, q6S, qdS, e8aS, e8bS, e9aS, e9bS⟩ := hbf
  have hzS := hbc.size
  have hlAS := kAS.lt
  have hlBS := kBS.lt
  replace HB : Hid (Below w.heap.size w _) := HB.out.trans (hbc.mono HB.out.size)
  replace HR : Hid (Bk _ _ _) := Bk.below HR.out hbc
  replace HE : Hid (Bk _ _ _) := Bk.below HE.out hbc
  replace HI : Hid (Bk _ _ _) := Bk.below HI.out hbc
  have SV0 : Hid (Bk WA b8 (orow rh none 0 0)) := kAS
  have SV1 : Hid (Bk WA b9 (irow p1 yl c1)) := kBS
  have SA1 : Hid (OE WA l1 u1 p1 ys) := oAS
  have SA2 : Hid (OE WA l2 u2 p2 xs) := oBS
  clear hbc kAS kBS oAS oBS
  have g0 := HE.out.cell 0 _ rfl
  have g1 := HE.out.cell 1 _ rfl
  go_wp2_with fail
  refine Calls.mono (TOO.out _ HB.out) ?_
  rintro u w13 ⟨a13, rfl, hb13, ho13⟩
  clear g0 g1
  have hmX := hb13.size
  have hal : Below w13.heap.size w13 (w13.alloc (.cells (orow hd a13 n n) 33)) := (Below.refl _ _).alloc (Nat.le_refl _) _
  have hb13' := hb13.trans (hal.mono hb13.size)
  replace HB : Hid (Below w.heap.size w _) := HB.out.trans (hb13'.mono HB.out.size)
  replace HR : Hid (Bk _ _ _) := Bk.below HR.out hb13'
  replace HE : Hid (Bk _ _ _) := Bk.below HE.out hb13'
  replace HI : Hid (Bk _ _ _) := Bk.below HI.out hb13'
  replace SV0 : Hid (Bk _ _ _) := Bk.below SV0.out hb13'
  replace SV1 : Hid (Bk _ _ _) := Bk.below SV1.out hb13'
  replace SA1 : Hid (OE _ _ _ _ _) := OE.below SA1.out hb13'
  replace SA2 : Hid (OE _ _ _ _ _) := OE.below SA2.out hb13'
  have hXA : OE (w13.alloc (.cells (orow hd a13 n n) 33)) WA.heap.size w13.heap.size a13 zs := ho13.below hal
  have hXV : Bk (w13.alloc (.cells (orow hd a13 n n) 33)) w13.heap.size (orow hd a13 n n) := Bk.new _ _ _ _ rfl
  clear hb13 hb13' hal ho13
  have g0 := HI.out.cell 0 _ rfl
  go_wp2_with fail
  clear g0
  revert hmX hXA hXV HB HR HE HI SV0 SV1 SA1 SA2
  generalize (w13.alloc (.cells (orow hd a13 n n) 33)) = V1
  generalize w13.heap.size = kx
  intro hmX HB HR HE HI SV0 SV1 SA1 SA2 hXA hXV
  have XA : Hid (OE V1 WA.heap.size kx a13 zs) := hXA
  have XV : Hid (Bk V1 kx (orow hd a13 n n)) := hXV
  have hlX := hXV.lt
  clear hXA hXV
  refine Calls.mono (TOI.out _ HB.out) ?_
  rintro u w14 ⟨a14, rfl, hb14, ho14⟩
  have hmY := hb14.size
  have hal : Below w14.heap.size w14 (w14.alloc (.cells (irow a14 m m) 41)) := (Below.refl _ _).alloc (Nat.le_refl _) _
  have hb14' := hb14.trans (hal.mono hb14.size)
  replace HB : Hid (Below w.heap.size w _) := HB.out.trans (hb14'.mono HB.out.size)
  replace HR : Hid (Bk _ _ _) := Bk.below HR.out hb14'
  replace HE : Hid (Bk _ _ _) := Bk.below HE.out hb14'
  replace HI : Hid (Bk _ _ _) := Bk.below HI.out hb14'
  replace SV0 : Hid (Bk _ _ _) := Bk.below SV0.out hb14'
  replace SV1 : Hid (Bk _ _ _) := Bk.below SV1.out hb14'
  replace SA1 : Hid (OE _ _ _ _ _) := OE.below SA1.out hb14'
  replace SA2 : Hid (OE _ _ _ _ _) := OE.below SA2.out hb14'
  replace XA : Hid (OE _ _ _ _ _) := OE.below XA.out hb14'
  replace XV : Hid (Bk _ _ _) := Bk.below XV.out hb14'
  have hXA : OE (w14.alloc (.cells (irow a14 m m) 41)) V1.heap.size w14.heap.size a14 rs := ho14.below hal
  have hXV : Bk (w14.alloc (.cells (irow a14 m m) 41)) w14.heap.size (irow a14 m m) := Bk.new _ _ _ _ rfl
  clear hb14 hb14' hal ho14
  try go_wp2
  revert hmY hXA hXV HB HR HE HI SV0 SV1 SA1 SA2 XA XV
  generalize (w14.alloc (.cells (irow a14 m m) 41)) = V2
  generalize w14.heap.size = ky
  intro hmY HB HR HE HI SV0 SV1 SA1 SA2 XA XV hXA hXV
  have YA : Hid (OE V2 V1.heap.size ky a14 rs) := hXA
  have YV : Hid (Bk V2 ky (irow a14 m m)) := hXV
  have hlY := hXV.lt
  clear hXA hXV
  try go_wp2
  go_cut [13, 14, 15] from 47 (fun s8 s9 s10 wc => ∃ b8 b9 p1 c1 p2 c2, s8 = Value.pointer (some ⟨b8, 0, none⟩) ∧ s9 = Value.pointer (some ⟨b9, 0, none⟩) ∧ s10 = Value.slice p2 xl c2 ∧ BF V2 wc b8 b9 rh p1 yl c1 ys p2 xs)
  case first =>
    refine wp_region_inv (by kernel_rfl) (by kernel_rfl) (fun A ℓ a' w' => ∃ (a1 a2 p1 : Option Addr) (c1 : Nat) (p2 : Option Addr) (c2 l1 u1 l2 u2 b8 b9 : Nat) (x48 x49 x50 x51 x52 x47 x53 x54 x55 x13 x14 x15 : Value), a' = ((((((((((((A.put (some 48) x48).put (some 49) x49).put (some 50) x50).put (some 51) x51).put (some 52) x52).put (some 47) x47).put (some 53) x53).put (some 54) x54).put (some 55) x55).put (some 13) x13).put (some 14) x14).put (some 15) x15) ∧ RI V2 rh yl ys xs zs rs (false) (false) (ℓ 4) (ℓ 9) (ℓ 10) (ℓ 11) (ℓ 12) a1 a2 p1 c1 p2 l1 u1 l2 u2 b8 b9 w' ∧ Hid (ℓ 0 = true → x48 = crw rk rf rt rd) ∧ Hid (ℓ 1 = true → x49 = crw rk rf rt rd) ∧ Hid (ℓ 2 = true → x50 = oen hd a13 n n) ∧ Hid (ℓ 3 = true → x51 = ien a14 m m) ∧ Hid (ℓ 4 = true → x52 = .tuple #[oen rh none 0 0, ien p1 yl c1, .slice p2 xl c2]) ∧ Hid (ℓ 5 = true → ℓ 4 = true ∧ x47 = .tuple #[oen rh none 0 0, ien p1 yl c1, .slice p2 xl c2]) ∧ Hid (ℓ 6 = true → x53 = oen rh none 0 0) ∧ Hid (ℓ 7 = true → ℓ 4 = true ∧ x54 = ien p1 yl c1) ∧ Hid (ℓ 8 = true → ℓ 4 = true ∧ x55 = .slice p2 xl c2) ∧ Hid (ℓ 9 = true → x13 = .pointer (some ⟨b8, 0, none⟩)) ∧ Hid (ℓ 10 = true → x14 = .pointer (some ⟨b9, 0, none⟩)) ∧ Hid (ℓ 13 = true → ℓ 4 = true ∧ x15 = .slice p2 xl c2)) ?_ ?_ ?_ ?_
    · exact ⟨none, none, none, 0, none, 0, 0, 0, 0, 0, 0, 0, u48, u49, u50, u51, u52, u47, u53, u54, u55, undef, undef, undef, (by simp only [Act.put, List.setIfInBounds_toArray, List.set_cons_zero, List.set_cons_succ]), RI.start (Below.refl _ _).drew _ _ _ _ _ _ _ _ _ _ _, (show _ → _ from fun g => by cases g), (show _ → _ from fun g => by cases g), (show _ → _ from fun g => by cases g), (show _ → _ from fun g => by cases g), (show _ → _ from fun g => by cases g), (show _ → _ from fun g => by cases g), (show _ → _ from fun g => by cases g), (show _ → _ from fun g => by cases g), (show _ → _ from fun g => by cases g), (show _ → _ from fun g => by cases g), (show _ → _ from fun g => by cases g), (show _ → _ from fun g => by cases g)⟩
    · intro ℓ a' w' hI hall
      obtain ⟨a1, a2, p1, c1, p2, c2, l1, u1, l2, u2, b8, b9, x48, x49, x50, x51, x52, x47, x53, x54, x55, x13, x14, x15, rfl, hr, f0, f1, f2, f3, f4, f5, f6, f7, f8, f9, f10, f13⟩ := hI
      have hall' : ∀ i, i < 14 → ℓ i = true := hall
      have g0 : ℓ 0 = true := hall' 0 (by omega)
      obtain rfl := f0.out g0
      have g1 : ℓ 1 = true := hall' 1 (by omega)
      obtain rfl := f1.out g1
      have g2 : ℓ 2 = true := hall' 2 (by omega)
      obtain rfl := f2.out g2
      have g3 : ℓ 3 = true := hall' 3 (by omega)
      obtain rfl := f3.out g3
      have g4 : ℓ 4 = true := hall' 4 (by omega)
      obtain rfl := f4.out g4
      have g5 : ℓ 5 = true := hall' 5 (by omega)
      obtain ⟨_, rfl⟩ := f5.out g5
      have g6 : ℓ 6 = true := hall' 6 (by omega)
      obtain rfl := f6.out g6
      have g7 : ℓ 7 = true := hall' 7 (by omega)
      obtain ⟨_, rfl⟩ := f7.out g7
      have g8 : ℓ 8 = true := hall' 8 (by omega)
      obtain ⟨_, rfl⟩ := f8.out g8
      have g9 : ℓ 9 = true := hall' 9 (by omega)
      obtain rfl := f9.out g9
      have g10 : ℓ 10 = true := hall' 10 (by omega)
      obtain rfl := f10.out g10
      have g13 : ℓ 13 = true := hall' 13 (by omega)
      obtain ⟨_, rfl⟩ := f13.out g13
      rw [g4, g9, g10, hall' 11 (by omega), hall' 12 (by omega)] at hr
      have hF := hr.fin
      clear hr
      simp only [Act.put, List.setIfInBounds_toArray, List.set_cons_zero, List.set_cons_succ]
      go_wp2_with fail
      go_meet
      exact ⟨_, _, _, _, _, _, rfl, rfl, rfl, hF⟩
    · intro ℓ a' w' i o hI ho hi hL hdep K hK
      obtain ⟨a1, a2, p1, c1, p2, c2, l1, u1, l2, u2, b8, b9, x48, x49, x50, x51, x52, x47, x53, x54, x55, x13, x14, x15, rfl, hr, f0, f1, f2, f3, f4, f5, f6, f7, f8, f9, f10, f13⟩ := hI
      have hi16 : i < 14 := hi
      have hcs : i = 0 ∨ i = 1 ∨ i = 2 ∨ i = 3 ∨ i = 4 ∨ i = 5 ∨ i = 6 ∨ i = 7 ∨ i = 8 ∨ i = 9 ∨ i = 10 ∨ i = 11 ∨ i = 12 ∨ i = 13 := by omega
      clear hi hi16
      rcases hcs with rfl | rfl | rfl | rfl | rfl | rfl | rfl | rfl | rfl | rfl | rfl | rfl | rfl | rfl
      · obtain rfl := Option.some.inj ho
        clear hdep ho
        rw [if_pos (by rfl)]
        try simp only [Act.put, List.setIfInBounds_toArray, List.set_cons_zero, List.set_cons_succ]
        have q0 : w'.cell? ⟨w.heap.size, 0, none⟩ = some (.int .i64 rk) := kept_c hr.gb (HR.out.cell 0 _ rfl)
        have q1 : w'.cell? ⟨w.heap.size, 1, none⟩ = some (.int .i64 rf) := kept_c hr.gb (HR.out.cell 1 _ rfl)
        have q2 : w'.cell? ⟨w.heap.size, 2, none⟩ = some (.int .i64 rt) := kept_c hr.gb (HR.out.cell 2 _ rfl)
        have q3 : w'.cell? ⟨w.heap.size, 3, none⟩ = some (.int .i64 rd) := kept_c hr.gb (HR.out.cell 3 _ rfl)
        go_simp
        exact hK.out _ _ (fun j => if j = 0 then true else ℓ j) ⟨a1, a2, p1, c1, p2, c2, l1, u1, l2, u2, b8, b9, (crw rk rf rt rd), x49, x50, x51, x52, x47, x53, x54, x55, x13, x14, x15, (by simp only [Act.put, List.setIfInBounds_toArray, List.set_cons_zero, List.set_cons_succ]), hr, (show _ → _ from fun _ => rfl), f1, f2, f3, f4, f5, f6, f7, f8, f9, f10, f13⟩ (if_pos rfl) (fun j hj => if_neg hj)
      · obtain rfl := Option.some.inj ho
        have g0 : ℓ 0 = true := hdep { on := 0, ground := Ground.data } (by simp) rfl
        clear hdep ho
        obtain rfl := f0.out g0
        rw [if_pos (by rfl)]
        try simp only [Act.put, List.setIfInBounds_toArray, List.set_cons_zero, List.set_cons_succ]
        go_simp
        refine Calls.mono (to_row rk rf rt rd _) ?_
        rintro u w1 ⟨rfl, hb1⟩
        exact hK.out _ _ (fun j => if j = 1 then true else ℓ j) ⟨a1, a2, p1, c1, p2, c2, l1, u1, l2, u2, b8, b9, (crw rk rf rt rd), (crw rk rf rt rd), x50, x51, x52, x47, x53, x54, x55, x13, x14, x15, (by simp only [Act.put, List.setIfInBounds_toArray, List.set_cons_zero, List.set_cons_succ]), (hr.below hb1), (show _ → _ from fun _ => rfl), (show _ → _ from fun _ => rfl), f2, f3, f4, f5, f6, f7, f8, f9, f10, f13⟩ (if_pos rfl) (fun j hj => if_neg hj)
      · obtain rfl := Option.some.inj ho
        clear hdep ho
        rw [if_pos (by rfl)]
        try simp only [Act.put, List.setIfInBounds_toArray, List.set_cons_zero, List.set_cons_succ]
        have q0 : w'.cell? ⟨kx, 0, none⟩ = some (.int .i64 hd) := kept_c hr.gb (XV.out.cell 0 _ rfl)
        have q1 : w'.cell? ⟨kx, 1, none⟩ = some (.slice a13 n n) := kept_c hr.gb (XV.out.cell 1 _ rfl)
        go_simp
        exact hK.out _ _ (fun j => if j = 2 then true else ℓ j) ⟨a1, a2, p1, c1, p2, c2, l1, u1, l2, u2, b8, b9, x48, x49, (oen hd a13 n n), x51, x52, x47, x53, x54, x55, x13, x14, x15, (by simp only [Act.put, List.setIfInBounds_toArray, List.set_cons_zero, List.set_cons_succ]), hr, f0, f1, (show _ → _ from fun _ => rfl), f3, f4, f5, f6, f7, f8, f9, f10, f13⟩ (if_pos rfl) (fun j hj => if_neg hj)
      · obtain rfl := Option.some.inj ho
        clear hdep ho
        rw [if_pos (by rfl)]
        try simp only [Act.put, List.setIfInBounds_toArray, List.set_cons_zero, List.set_cons_succ]
        have q0 : w'.cell? ⟨ky, 0, none⟩ = some (.slice a14 m m) := kept_c hr.gb (YV.out.cell 0 _ rfl)
        go_simp
        exact hK.out _ _ (fun j => if j = 3 then true else ℓ j) ⟨a1, a2, p1, c1, p2, c2, l1, u1, l2, u2, b8, b9, x48, x49, x50, (ien a14 m m), x52, x47, x53, x54, x55, x13, x14, x15, (by simp only [Act.put, List.setIfInBounds_toArray, List.set_cons_zero, List.set_cons_succ]), hr, f0, f1, f2, (show _ → _ from fun _ => rfl), f4, f5, f6, f7, f8, f9, f10, f13⟩ (if_pos rfl) (fun j hj => if_neg hj)
      · obtain rfl := Option.some.inj ho
        have g1 : ℓ 1 = true := hdep { on := 1, ground := Ground.data } (by simp) rfl
        have g2 : ℓ 2 = true := hdep { on := 2, ground := Ground.data } (by simp) rfl
        have g3 : ℓ 3 = true := hdep { on := 3, ground := Ground.data } (by simp) rfl
        clear hdep ho
        obtain rfl := f1.out g1
        obtain rfl := f2.out g2
        obtain rfl := f3.out g3
        rw [if_pos (by rfl)]
        try simp only [Act.put, List.setIfInBounds_toArray, List.set_cons_zero, List.set_cons_succ]
        go_simp
        refine Calls.mono (IM.out _ a13 a14 (Seg.below (OE.seg XA.out) hr.gb) (Seg.below (OE.seg YA.out) hr.gb)) ?_
        rintro u w1 ⟨q1, d1, q2, d2, rfl, hb1, ho1⟩
        obtain ⟨m1, v1, m2, v2, hr2⟩ := hr.sp hL hb1 q1 d1 q2 ho1
        exact hK.out _ _ (fun j => if j = 4 then true else ℓ j) ⟨a1, a2, q1, d1, q2, d2, m1, v1, m2, v2, b8, b9, x48, (crw rk rf rt rd), (oen hd a13 n n), (ien a14 m m), (.tuple #[oen rh none 0 0, ien q1 yl d1, .slice q2 xl d2]), x47, x53, x54, x55, x13, x14, x15, (by simp only [Act.put, List.setIfInBounds_toArray, List.set_cons_zero, List.set_cons_succ]), hr2, f0, (show _ → _ from fun _ => rfl), (show _ → _ from fun _ => rfl), (show _ → _ from fun _ => rfl), (show _ → _ from fun _ => rfl), (show _ → _ from fun g => absurd ((f5.out g).1.symm.trans hL) (by decide)), f6, (show _ → _ from fun g => absurd ((f7.out g).1.symm.trans hL) (by decide)), (show _ → _ from fun g => absurd ((f8.out g).1.symm.trans hL) (by decide)), f9, f10, (show _ → _ from fun g => absurd ((f13.out g).1.symm.trans hL) (by decide))⟩ (if_pos rfl) (fun j hj => if_neg hj)
      · obtain rfl := Option.some.inj ho
        have g4 : ℓ 4 = true := hdep { on := 4, ground := Ground.data } (by simp) rfl
        clear hdep ho
        obtain rfl := f4.out g4
        have gc := g4
        rw [if_pos (by rfl)]
        try simp only [Act.put, List.setIfInBounds_toArray, List.set_cons_zero, List.set_cons_succ]
        go_simp
        exact hK.out _ _ (fun j => if j = 5 then true else ℓ j) ⟨a1, a2, p1, c1, p2, c2, l1, u1, l2, u2, b8, b9, x48, x49, x50, x51, (.tuple #[oen rh none 0 0, ien p1 yl c1, .slice p2 xl c2]), (.tuple #[oen rh none 0 0, ien p1 yl c1, .slice p2 xl c2]), x53, x54, x55, x13, x14, x15, (by simp only [Act.put, List.setIfInBounds_toArray, List.set_cons_zero, List.set_cons_succ]), hr, f0, f1, f2, f3, (show _ → _ from fun _ => rfl), (show _ → _ from fun _ => ⟨gc, rfl⟩), f6, f7, f8, f9, f10, f13⟩ (if_pos rfl) (fun j hj => if_neg hj)
      · obtain rfl := Option.some.inj ho
        have g5 : ℓ 5 = true := hdep { on := 5, ground := Ground.data } (by simp) rfl
        clear hdep ho
        have gc := (f5.out g5).1; have hx5 := (f5.out g5).2; clear f5; subst hx5
        rw [if_pos (by rfl)]
        try simp only [Act.put, List.setIfInBounds_toArray, List.set_cons_zero, List.set_cons_succ]
        go_simp
        exact hK.out _ _ (fun j => if j = 6 then true else ℓ j) ⟨a1, a2, p1, c1, p2, c2, l1, u1, l2, u2, b8, b9, x48, x49, x50, x51, x52, (.tuple #[oen rh none 0 0, ien p1 yl c1, .slice p2 xl c2]), (oen rh none 0 0), x54, x55, x13, x14, x15, (by simp only [Act.put, List.setIfInBounds_toArray, List.set_cons_zero, List.set_cons_succ]), hr, f0, f1, f2, f3, f4, (show _ → _ from fun _ => ⟨gc, rfl⟩), (show _ → _ from fun _ => rfl), f7, f8, f9, f10, f13⟩ (if_pos rfl) (fun j hj => if_neg hj)
      · obtain rfl := Option.some.inj ho
        have g5 : ℓ 5 = true := hdep { on := 5, ground := Ground.data } (by simp) rfl
        clear hdep ho
        have gc := (f5.out g5).1; have hx5 := (f5.out g5).2; clear f5; subst hx5
        rw [if_pos (by rfl)]
        try simp only [Act.put, List.setIfInBounds_toArray, List.set_cons_zero, List.set_cons_succ]
        go_simp
        exact hK.out _ _ (fun j => if j = 7 then true else ℓ j) ⟨a1, a2, p1, c1, p2, c2, l1, u1, l2, u2, b8, b9, x48, x49, x50, x51, x52, (.tuple #[oen rh none 0 0, ien p1 yl c1, .slice p2 xl c2]), x53, (ien p1 yl c1), x55, x13, x14, x15, (by simp only [Act.put, List.setIfInBounds_toArray, List.set_cons_zero, List.set_cons_succ]), hr, f0, f1, f2, f3, f4, (show _ → _ from fun _ => ⟨gc, rfl⟩), f6, (show _ → _ from fun _ => ⟨gc, rfl⟩), f8, f9, f10, f13⟩ (if_pos rfl) (fun j hj => if_neg hj)
      · obtain rfl := Option.some.inj ho
        have g5 : ℓ 5 = true := hdep { on := 5, ground := Ground.data } (by simp) rfl
        clear hdep ho
        have gc := (f5.out g5).1; have hx5 := (f5.out g5).2; clear f5; subst hx5
        rw [if_pos (by rfl)]
        try simp only [Act.put, List.setIfInBounds_toArray, List.set_cons_zero, List.set_cons_succ]
        go_simp
        exact hK.out _ _ (fun j => if j = 8 then true else ℓ j) ⟨a1, a2, p1, c1, p2, c2, l1, u1, l2, u2, b8, b9, x48, x49, x50, x51, x52, (.tuple #[oen rh none 0 0, ien p1 yl c1, .slice p2 xl c2]), x53, x54, (.slice p2 xl c2), x13, x14, x15, (by simp only [Act.put, List.setIfInBounds_toArray, List.set_cons_zero, List.set_cons_succ]), hr, f0, f1, f2, f3, f4, (show _ → _ from fun _ => ⟨gc, rfl⟩), f6, f7, (show _ → _ from fun _ => ⟨gc, rfl⟩), f9, f10, f13⟩ (if_pos rfl) (fun j hj => if_neg hj)
      · obtain rfl := Option.some.inj ho
        clear hdep ho
        rw [if_pos (by rfl)]
        try simp only [Act.put, List.setIfInBounds_toArray, List.set_cons_zero, List.set_cons_succ]
        go_simp
        exact hK.out _ _ (fun j => if j = 9 then true else ℓ j) ⟨a1, a2, p1, c1, p2, c2, l1, u1, l2, u2, w'.heap.size, b9, x48, x49, x50, x51, x52, x47, x53, x54, x55, (.pointer (some ⟨w'.heap.size, 0, none⟩)), x14, x15, (by simp only [Act.put, List.setIfInBounds_toArray, List.set_cons_zero, List.set_cons_succ]), (hr.al8 hL _ _ _), f0, f1, f2, f3, f4, f5, f6, f7, f8, (show _ → _ from fun _ => rfl), f10, f13⟩ (if_pos rfl) (fun j hj => if_neg hj)
      · obtain rfl := Option.some.inj ho
        clear hdep ho
        rw [if_pos (by rfl)]
        try simp only [Act.put, List.setIfInBounds_toArray, List.set_cons_zero, List.set_cons_succ]
        go_simp
        exact hK.out _ _ (fun j => if j = 10 then true else ℓ j) ⟨a1, a2, p1, c1, p2, c2, l1, u1, l2, u2, b8, w'.heap.size, x48, x49, x50, x51, x52, x47, x53, x54, x55, x13, (.pointer (some ⟨w'.heap.size, 0, none⟩)), x15, (by simp only [Act.put, List.setIfInBounds_toArray, List.set_cons_zero, List.set_cons_succ]), (hr.al9 hL _ _), f0, f1, f2, f3, f4, f5, f6, f7, f8, f9, (show _ → _ from fun _ => rfl), f13⟩ (if_pos rfl) (fun j hj => if_neg hj)
      · obtain rfl := Option.some.inj ho
        have g9 : ℓ 9 = true := hdep { on := 9, ground := Ground.data } (by simp) rfl
        have g6 : ℓ 6 = true := hdep { on := 6, ground := Ground.data } (by simp) rfl
        have g4 : ℓ 4 = true := hdep { on := 4, ground := Ground.chain } (by simp) rfl
        clear hdep ho
        obtain rfl := f9.out g9
        obtain rfl := f6.out g6
        obtain rfl := f4.out g4
        have gc := g4
        rw [if_pos (by rfl)]
        try simp only [Act.put, List.setIfInBounds_toArray, List.set_cons_zero, List.set_cons_succ]
        rw [g4, g9] at hr
        obtain ⟨_, v0, v1, k8⟩ := hr.k8 rfl
        have q0 := k8.cell 0 _ rfl
        have q1 := k8.cell 1 _ rfl
        have qf := k8.free
        go_simp
        have hr2 := hr.st8
        exact hK.out _ _ (fun j => if j = 11 then true else ℓ j) ⟨a1, a2, p1, c1, p2, c2, l1, u1, l2, u2, b8, b9, x48, x49, x50, x51, (.tuple #[oen rh none 0 0, ien p1 yl c1, .slice p2 xl c2]), x47, (oen rh none 0 0), x54, x55, (.pointer (some ⟨b8, 0, none⟩)), x14, x15, (by simp only [Act.put, List.setIfInBounds_toArray, List.set_cons_zero, List.set_cons_succ]), (by show RI _ _ _ _ _ _ _ _ _ (ℓ 4) (ℓ 9) _ true _ _ _ _ _ _ _ _ _ _ _ _ _; rw [g4, g9]; exact hr2), f0, f1, f2, f3, (show _ → _ from fun _ => rfl), f5, (show _ → _ from fun _ => rfl), f7, f8, (show _ → _ from fun _ => rfl), f10, f13⟩ (if_pos rfl) (fun j hj => if_neg hj)
      · obtain rfl := Option.some.inj ho
        have g10 : ℓ 10 = true := hdep { on := 10, ground := Ground.data } (by simp) rfl
        have g7 : ℓ 7 = true := hdep { on := 7, ground := Ground.data } (by simp) rfl
        have g4 : ℓ 4 = true := hdep { on := 4, ground := Ground.phase } (by simp) rfl
        clear hdep ho
        obtain rfl := f10.out g10
        have gc := (f7.out g7).1; have hx7 := (f7.out g7).2; clear f7; subst hx7
        obtain rfl := f4.out g4
        have gc := g4
        rw [if_pos (by rfl)]
        try simp only [Act.put, List.setIfInBounds_toArray, List.set_cons_zero, List.set_cons_succ]
        rw [g4, g10] at hr
        obtain ⟨_, v0, k9⟩ := hr.k9 rfl
        have q0 := k9.cell 0 _ rfl
        have qf := k9.free
        go_simp
        have hr2 := hr.st9
        exact hK.out _ _ (fun j => if j = 12 then true else ℓ j) ⟨a1, a2, p1, c1, p2, c2, l1, u1, l2, u2, b8, b9, x48, x49, x50, x51, (.tuple #[oen rh none 0 0, ien p1 yl c1, .slice p2 xl c2]), x47, x53, (ien p1 yl c1), x55, x13, (.pointer (some ⟨b9, 0, none⟩)), x15, (by simp only [Act.put, List.setIfInBounds_toArray, List.set_cons_zero, List.set_cons_succ]), (by show RI _ _ _ _ _ _ _ _ _ (ℓ 4) _ (ℓ 10) _ true _ _ _ _ _ _ _ _ _ _ _ _; rw [g4, g10]; exact hr2), f0, f1, f2, f3, (show _ → _ from fun _ => rfl), f5, f6, (show _ → _ from fun _ => ⟨gc, rfl⟩), f8, f9, (show _ → _ from fun _ => rfl), f13⟩ (if_pos rfl) (fun j hj => if_neg hj)
      · obtain rfl := Option.some.inj ho
        have g8 : ℓ 8 = true := hdep { on := 8, ground := Ground.data } (by simp) rfl
        clear hdep ho
        have gc := (f8.out g8).1; have hx8 := (f8.out g8).2; clear f8; subst hx8
        rw [if_pos (by rfl)]
        try simp only [Act.put, List.setIfInBounds_toArray, List.set_cons_zero, List.set_cons_succ]
        go_simp
        exact hK.out _ _ (fun j => if j = 13 then true else ℓ j) ⟨a1, a2, p1, c1, p2, c2, l1, u1, l2, u2, b8, b9, x48, x49, x50, x51, x52, x47, x53, x54, (.slice p2 xl c2), x13, x14, (.slice p2 xl c2), (by simp only [Act.put, List.setIfInBounds_toArray, List.set_cons_zero, List.set_cons_succ]), hr, f0, f1, f2, f3, f4, f5, f6, f7, (show _ → _ from fun _ => ⟨gc, rfl⟩), f9, f10, (show _ → _ from fun _ => ⟨gc, rfl⟩)⟩ (if_pos rfl) (fun j hj => if_neg hj)
    · intro a' w' ℓ ℓ' hℓ hI
      rw [← show ℓ = ℓ' from funext hℓ]
      exact hI
  case rest =>
  obtain ⟨b13, b14, r1, d1, r2, d2, rfl, rfl, rfl, hbf⟩ := hcut
  obtain ⟨WG, hWA⟩ : ∃ W, W = wc := ⟨_, rfl⟩
  subst hWA
  obtain ⟨hbc, kAG, kBG, n8G, n9G, n89G, m1, v1, m2, v2, oAG, oBG, q1G, q2G, q3G, q4G, q5G, q6G, qdG, e8aG, e8bG, e9aG, e9bG⟩ := hbf
  have hzG := hbc.size
  have hlAG := kAG.lt
  have hlBG := kBG.lt
  replace HB : Hid (Below w.heap.size w _) := HB.out.trans (hbc.mono HB.out.size)
  replace HR : Hid (Bk _ _ _) := Bk.below HR.out hbc
  replace HE : Hid (Bk _ _ _) := Bk.below HE.out hbc
  replace HI : Hid (Bk _ _ _) := Bk.below HI.out hbc
  replace SV0 : Hid (Bk _ _ _) := Bk.below SV0.out hbc
  replace SV1 : Hid (Bk _ _ _) := Bk.below SV1.out hbc
  replace SA1 : Hid (OE _ _ _ _ _) := OE.below SA1.out hbc
  replace SA2 : Hid (OE _ _ _ _ _) := OE.below SA2.out hbc
  replace XA : Hid (OE _ _ _ _ _) := OE.below XA.out hbc
  replace XV : Hid (Bk _ _ _) := Bk.below XV.out hbc
  replace YA : Hid (OE _ _ _ _ _) := OE.below YA.out hbc
  replace YV : Hid (Bk _ _ _) := Bk.below YV.out hbc
  have GV0 : Hid (Bk WG b13 (orow rh none 0 0)) := kAG
  have GV1 : Hid (Bk WG b14 (irow r1 yl d1)) := kBG
  have GA1 : Hid (OE WG m1 v1 r1 ys) := oAG
  have GA2 : Hid (OE WG m2 v2 r2 xs) := oBG
  clear hbc kAG kBG oAG oBG
  have g0 := GV0.out.cell 0 _ rfl
  have g1 := GV0.out.cell 1 _ rfl
  have s0 := SV0.out.cell 0 _ rfl
  have s1 := SV0.out.cell 1 _ rfl
  go_wp2_with fail
  refine Calls.mono (eq_out rh none none 0 0 0 [] _ (OE.seg (OE.nil _ 0 0 _)) (OE.seg (OE.nil _ 0 0 _)) rfl (by omega)) ?_
  rintro u w15 ⟨rfl, hb15⟩
  clear g0 g1
  clear s0 s1
  replace HB : Hid (Below w.heap.size w _) := HB.out.trans (hb15.mono HB.out.size)
  replace HR : Hid (Bk _ _ _) := Bk.below HR.out hb15
  replace HE : Hid (Bk _ _ _) := Bk.below HE.out hb15
  replace HI : Hid (Bk _ _ _) := Bk.below HI.out hb15
  replace SV0 : Hid (Bk _ _ _) := Bk.below SV0.out hb15
  replace SV1 : Hid (Bk _ _ _) := Bk.below SV1.out hb15
  replace SA1 : Hid (OE _ _ _ _ _) := OE.below SA1.out hb15
  replace SA2 : Hid (OE _ _ _ _ _) := OE.below SA2.out hb15
  replace XA : Hid (OE _ _ _ _ _) := OE.below XA.out hb15
  replace XV : Hid (Bk _ _ _) := Bk.below XV.out hb15
  replace YA : Hid (OE _ _ _ _ _) := OE.below YA.out hb15
  replace YV : Hid (Bk _ _ _) := Bk.below YV.out hb15
  replace GV0 : Hid (Bk _ _ _) := Bk.below GV0.out hb15
  replace GV1 : Hid (Bk _ _ _) := Bk.below GV1.out hb15
  replace GA1 : Hid (OE _ _ _ _ _) := OE.below GA1.out hb15
  replace GA2 : Hid (OE _ _ _ _ _) := OE.below GA2.out hb15
  have hz15 := hb15.size
  clear hb15
  have g0 := GV1.out.cell 0 _ rfl
  have s0 := SV1.out.cell 0 _ rfl
  go_wp2_with fail
  refine Calls.mono (eq_in r1 p1 d1 c1 yl ys _ (OE.seg GA1.out) (OE.seg SA1.out) HYL.out hyl) ?_
  rintro u w16 ⟨rfl, hb16⟩
  clear g0
  clear s0
  replace HB : Hid (Below w.heap.size w _) := HB.out.trans (hb16.mono HB.out.size)
  replace HR : Hid (Bk _ _ _) := Bk.below HR.out hb16
  replace HE : Hid (Bk _ _ _) := Bk.below HE.out hb16
  replace HI : Hid (Bk _ _ _) := Bk.below HI.out hb16
  replace SV0 : Hid (Bk _ _ _) := Bk.below SV0.out hb16
  replace SV1 : Hid (Bk _ _ _) := Bk.below SV1.out hb16
  replace SA1 : Hid (OE _ _ _ _ _) := OE.below SA1.out hb16
  replace SA2 : Hid (OE _ _ _ _ _) := OE.below SA2.out hb16
  replace XA : Hid (OE _ _ _ _ _) := OE.below XA.out hb16
  replace XV : Hid (Bk _ _ _) := Bk.below XV.out hb16
  replace YA : Hid (OE _ _ _ _ _) := OE.below YA.out hb16
  replace YV : Hid (Bk _ _ _) := Bk.below YV.out hb16
  replace GV0 : Hid (Bk _ _ _) := Bk.below GV0.out hb16
  replace GV1 : Hid (Bk _ _ _) := Bk.below GV1.out hb16
  replace GA1 : Hid (OE _ _ _ _ _) := OE.below GA1.out hb16
  replace GA2 : Hid (OE _ _ _ _ _) := OE.below GA2.out hb16
  have hz16 := hb16.size
  clear hb16
  go_wp2_with fail
  refine Calls.mono (eq_regs r2 p2 d2 c2 xl xs _ (OE.seg GA2.out) (OE.seg SA2.out) HXL.out hxl) ?_
  rintro u w17 ⟨rfl, hb17⟩
  replace HB : Hid (Below w.heap.size w _) := HB.out.trans (hb17.mono HB.out.size)
  replace HR : Hid (Bk _ _ _) := Bk.below HR.out hb17
  replace HE : Hid (Bk _ _ _) := Bk.below HE.out hb17
  replace HI : Hid (Bk _ _ _) := Bk.below HI.out hb17
  replace SV0 : Hid (Bk _ _ _) := Bk.below SV0.out hb17
  replace SV1 : Hid (Bk _ _ _) := Bk.below SV1.out hb17
  replace SA1 : Hid (OE _ _ _ _ _) := OE.below SA1.out hb17
  replace SA2 : Hid (OE _ _ _ _ _) := OE.below SA2.out hb17
  replace XA : Hid (OE _ _ _ _ _) := OE.below XA.out hb17
  replace XV : Hid (Bk _ _ _) := Bk.below XV.out hb17
  replace YA : Hid (OE _ _ _ _ _) := OE.below YA.out hb17
  replace YV : Hid (Bk _ _ _) := Bk.below YV.out hb17
  replace GV0 : Hid (Bk _ _ _) := Bk.below GV0.out hb17
  replace GV1 : Hid (Bk _ _ _) := Bk.below GV1.out hb17
  replace GA1 : Hid (OE _ _ _ _ _) := OE.below GA1.out hb17
  replace GA2 : Hid (OE _ _ _ _ _) := OE.below GA2.out hb17
  have hz17 := hb17.size
  clear hb17
  try go_wp2
  have HXS : Hid (∀ X, Below w17.heap.size w17 X → Seg .u32 X a13 zs) := fun X hX => OE.seg (OE.below XA.out hX)
  have hb : Below w17.heap.size w17 w17 := Below.refl _ _
  have HBX : Hid (∀ X, Below w17.heap.size w17 X → Below w.heap.size w X) := fun X hX => HB.out.trans (hX.mono HB.out.size)
  have AC0 : Hid (w17.cell? ⟨kx, 0, none⟩ = some (.int .i64 hd)) := XV.out.cell 0 _ rfl
  have ac0 := AC0.out
  have AC1 : Hid (w17.cell? ⟨kx, 1, none⟩ = some (.slice a13 n n)) := XV.out.cell 1 _ rfl
  have ac1 := AC1.out
  have BC0 : Hid (w17.cell? ⟨w.heap.size + 1, 0, none⟩ = some (.int .i64 hd)) := HE.out.cell 0 _ rfl
  have bc0 := BC0.out
  have BC1 : Hid (w17.cell? ⟨w.heap.size + 1, 1, none⟩ = some (.slice a n cap)) := HE.out.cell 1 _ rfl
  have bc1 := BC1.out
  go_wp2
  go_region_held_law (fun w' => w'.cell? ⟨kx, 0, none⟩ = some (.int .i64 hd) ∧ w'.cell? ⟨kx, 1, none⟩ = some (.slice a13 n n) ∧ w'.cell? ⟨w.heap.size + 1, 0, none⟩ = some (.int .i64 hd) ∧ w'.cell? ⟨w.heap.size + 1, 1, none⟩ = some (.slice a n cap)) (first | with_reducible exact ⟨ac0, ac1, bc0, bc1⟩ | with_reducible exact ⟨dr_c ac0, dr_c ac1, dr_c bc0, dr_c bc1⟩ | with_reducible exact ⟨al_c _ ac0, al_c _ ac1, al_c _ bc0, al_c _ bc1⟩ | with_reducible exact ⟨al_c _ (dr_c ac0), al_c _ (dr_c ac1), al_c _ (dr_c bc0), al_c _ (dr_c bc1)⟩ | with_reducible exact ⟨dr_c (al_c _ ac0), dr_c (al_c _ ac1), dr_c (al_c _ bc0), dr_c (al_c _ bc1)⟩)
    (first | (go_at_call 19; refine Calls.mono (TOO.out _ (HBX.out _ (by first | exact hb | exact hb.drew | exact hb.alloc hb.size _ | exact (hb.alloc hb.size _).drew))) ?_; rintro u w78 ⟨a8, rfl, hbb, hsO⟩; have hbn := (by first | exact hb.trans (hbb.mono hb.size) | exact hb.drew.trans (hbb.mono hb.drew.size) | exact (hb.alloc hb.size _).trans (hbb.mono (hb.alloc hb.size _).size) | exact ((hb.alloc hb.size _).drew).trans (hbb.mono ((hb.alloc hb.size _).drew).size)); replace hb := hbn; clear hbn; replace ac0 := kept_c hb AC0.out; replace ac1 := kept_c hb AC1.out; replace bc0 := kept_c hb BC0.out; replace bc1 := kept_c hb BC1.out; have hz90 := hb.size; clear hbb) | (go_at_call 21; refine Calls.mono (EQO.out _ a13 a8 (HXS.out _ (by first | exact hb | exact hb.drew)) (by first | exact OE.seg hsO | exact OE.seg (oe_kept ((Below.refl _ _).alloc (Nat.le_refl _) _) hsO))) ?_; rintro u w77 ⟨rfl, hbb⟩; have hbn := (by first | exact hb.trans (hbb.mono hb.size) | exact hb.drew.trans (hbb.mono hb.drew.size) | exact (hb.alloc hb.size _).trans (hbb.mono (hb.alloc hb.size _).size) | exact ((hb.alloc hb.size _).drew).trans (hbb.mono ((hb.alloc hb.size _).drew).size)); replace hb := hbn; clear hbn; replace ac0 := kept_c hb AC0.out; replace ac1 := kept_c hb AC1.out; replace bc0 := kept_c hb BC0.out; replace bc1 := kept_c hb BC1.out; have hz91 := hb.size; clear hbb))
  all_goals
    rename_i hhh
    clear hhh
    have hbR := hb
    clear hb ac0 ac1 bc0 bc1
    try clear hsO
    clear hz90 hz91
    revert hbR
    revert w77
    revert a8
    try clear w78
    refine ?wayEO
  intro a8 EOw hbR
  have hzEO := hbR.size
  clear HBX HXS AC0 AC1 BC0 BC1
  replace HB : Hid (Below w.heap.size w _) := HB.out.trans (hbR.mono HB.out.size)
  replace HR : Hid (Bk _ _ _) := Bk.below HR.out hbR
  replace HE : Hid (Bk _ _ _) := Bk.below HE.out hbR
  replace HI : Hid (Bk _ _ _) := Bk.below HI.out hbR
  replace SV0 : Hid (Bk _ _ _) := Bk.below SV0.out hbR
  replace SV1 : Hid (Bk _ _ _) := Bk.below SV1.out hbR
  replace SA1 : Hid (OE _ _ _ _ _) := OE.below SA1.out hbR
  replace SA2 : Hid (OE _ _ _ _ _) := OE.below SA2.out hbR
  replace XA : Hid (OE _ _ _ _ _) := OE.below XA.out hbR
  replace XV : Hid (Bk _ _ _) := Bk.below XV.out hbR
  replace YA : Hid (OE _ _ _ _ _) := OE.below YA.out hbR
  replace YV : Hid (Bk _ _ _) := Bk.below YV.out hbR
  replace GV0 : Hid (Bk _ _ _) := Bk.below GV0.out hbR
  replace GV1 : Hid (Bk _ _ _) := Bk.below GV1.out hbR
  replace GA1 : Hid (OE _ _ _ _ _) := OE.below GA1.out hbR
  replace GA2 : Hid (OE _ _ _ _ _) := OE.below GA2.out hbR
  clear hbR
  try go_wp2
  have HXS : Hid (∀ X, Below EOw.heap.size EOw X → Seg .u32 X a14 rs) := fun X hX => OE.seg (OE.below YA.out hX)
  have hb : Below EOw.heap.size EOw EOw := Below.refl _ _
  have HBX : Hid (∀ X, Below EOw.heap.size EOw X → Below w.heap.size w X) := fun X hX => HB.out.trans (hX.mono HB.out.size)
  have AC0 : Hid (EOw.cell? ⟨ky, 0, none⟩ = some (.slice a14 m m)) := YV.out.cell 0 _ rfl
  have ac0 := AC0.out
  have BC0 : Hid (EOw.cell? ⟨w.heap.size + 1 + 1, 0, none⟩ = some (.slice ar m capr)) := HI.out.cell 0 _ rfl
  have bc0 := BC0.out
  go_wp2
  go_region_held_law (fun w' => w'.cell? ⟨ky, 0, none⟩ = some (.slice a14 m m) ∧ w'.cell? ⟨w.heap.size + 1 + 1, 0, none⟩ = some (.slice ar m capr)) (first | with_reducible exact ⟨ac0, bc0⟩ | with_reducible exact ⟨dr_c ac0, dr_c bc0⟩ | with_reducible exact ⟨al_c _ ac0, al_c _ bc0⟩ | with_reducible exact ⟨al_c _ (dr_c ac0), al_c _ (dr_c bc0)⟩ | with_reducible exact ⟨dr_c (al_c _ ac0), dr_c (al_c _ bc0)⟩)
    (first | (go_at_call 24; refine Calls.mono (TOI.out _ (HBX.out _ (by first | exact hb | exact hb.drew | exact hb.alloc hb.size _ | exact (hb.alloc hb.size _).drew))) ?_; rintro u w78 ⟨a8, rfl, hbb, hsO⟩; have hbn := (by first | exact hb.trans (hbb.mono hb.size) | exact hb.drew.trans (hbb.mono hb.drew.size) | exact (hb.alloc hb.size _).trans (hbb.mono (hb.alloc hb.size _).size) | exact ((hb.alloc hb.size _).drew).trans (hbb.mono ((hb.alloc hb.size _).drew).size)); replace hb := hbn; clear hbn; replace ac0 := kept_c hb AC0.out; replace bc0 := kept_c hb BC0.out; have hz90 := hb.size; clear hbb) | (go_at_call 26; refine Calls.mono (EQI.out _ a14 a8 (HXS.out _ (by first | exact hb | exact hb.drew)) (by first | exact OE.seg hsO | exact OE.seg (oe_kept ((Below.refl _ _).alloc (Nat.le_refl _) _) hsO))) ?_; rintro u w77 ⟨rfl, hbb⟩; have hbn := (by first | exact hb.trans (hbb.mono hb.size) | exact hb.drew.trans (hbb.mono hb.drew.size) | exact (hb.alloc hb.size _).trans (hbb.mono (hb.alloc hb.size _).size) | exact ((hb.alloc hb.size _).drew).trans (hbb.mono ((hb.alloc hb.size _).drew).size)); replace hb := hbn; clear hbn; replace ac0 := kept_c hb AC0.out; replace bc0 := kept_c hb BC0.out; have hz91 := hb.size; clear hbb))
  all_goals
    rename_i hhh
    clear hhh
    have hbR := hb
    clear hb ac0 bc0
    try clear hsO
    clear hz90 hz91
    revert hbR
    revert w77
    revert a8
    try clear w78
    refine ?wayEI
  intro a8' EIw hbR
  have hzEI := hbR.size
  clear HBX HXS AC0 BC0
  replace HB : Hid (Below w.heap.size w _) := HB.out.trans (hbR.mono HB.out.size)
  replace HR : Hid (Bk _ _ _) := Bk.below HR.out hbR
  replace HE : Hid (Bk _ _ _) := Bk.below HE.out hbR
  replace HI : Hid (Bk _ _ _) := Bk.below HI.out hbR
  replace SV0 : Hid (Bk _ _ _) := Bk.below SV0.out hbR
  replace SV1 : Hid (Bk _ _ _) := Bk.below SV1.out hbR
  replace SA1 : Hid (OE _ _ _ _ _) := OE.below SA1.out hbR
  replace SA2 : Hid (OE _ _ _ _ _) := OE.below SA2.out hbR
  replace XA : Hid (OE _ _ _ _ _) := OE.below XA.out hbR
  replace XV : Hid (Bk _ _ _) := Bk.below XV.out hbR
  replace YA : Hid (OE _ _ _ _ _) := OE.below YA.out hbR
  replace YV : Hid (Bk _ _ _) := Bk.below YV.out hbR
  replace GV0 : Hid (Bk _ _ _) := Bk.below GV0.out hbR
  replace GV1 : Hid (Bk _ _ _) := Bk.below GV1.out hbR
  replace GA1 : Hid (OE _ _ _ _ _) := OE.below GA1.out hbR
  replace GA2 : Hid (OE _ _ _ _ _) := OE.below GA2.out hbR
  clear hbR
  have g0 := XV.out.cell 0 _ rfl
  have g1 := XV.out.cell 1 _ rfl
  go_wp2_with fail
  refine Calls.mono (mark_out hd WA.heap.size kx n n 1 a13 zs _ XA.out HL0.out hbig (by omega) (by omega)) ?_
  rintro u w19 ⟨rfl, hb19, ho19⟩
  clear XA
  replace HB : Hid (Below w.heap.size w _) := HB.out.trans (hb19.below (by omega) HB.out.size)
  replace HR : Hid (Bk _ _ _) := Bk.betw HR.out hb19 (by omega)
  replace HE : Hid (Bk _ _ _) := Bk.betw HE.out hb19 (by omega)
  replace HI : Hid (Bk _ _ _) := Bk.betw HI.out hb19 (by omega)
  replace SV0 : Hid (Bk _ _ _) := Bk.betw SV0.out hb19 (by omega)
  replace SV1 : Hid (Bk _ _ _) := Bk.betw SV1.out hb19 (by omega)
  replace SA1 : Hid (OE _ _ _ _ _) := OE.betw SA1.out hb19 (by omega)
  replace SA2 : Hid (OE _ _ _ _ _) := OE.betw SA2.out hb19 (by omega)
  replace XV : Hid (Bk _ _ _) := Bk.betw XV.out hb19 (by omega)
  replace YA : Hid (OE _ _ _ _ _) := OE.betw YA.out hb19 (by omega)
  replace YV : Hid (Bk _ _ _) := Bk.betw YV.out hb19 (by omega)
  replace GV0 : Hid (Bk _ _ _) := Bk.betw GV0.out hb19 (by omega)
  replace GV1 : Hid (Bk _ _ _) := Bk.betw GV1.out hb19 (by omega)
  replace GA1 : Hid (OE _ _ _ _ _) := OE.betw GA1.out hb19 (by omega)
  replace GA2 : Hid (OE _ _ _ _ _) := OE.betw GA2.out hb19 (by omega)
  have hz19 := hb19.size
  clear hb19 ho19
  obtain ⟨K1, HK1⟩ : ∃ K, Hid (1 + n = K) := ⟨1 + n, (rfl : 1 + n = 1 + n)⟩
  have hK1 : ¬ ((K1 : Int) < 0) := by omega
  have hK1b : K1 ≤ 2000000 := by have := HK1.out; omega
  rw [HK1.out]
  clear g0 g1
  have g0 := YV.out.cell 0 _ rfl
  go_wp2_with fail
  refine Calls.mono (mark_in V1.heap.size ky m m K1 a14 rs _ YA.out HLR.out hmbig (by omega) (by omega)) ?_
  rintro u w20 ⟨rfl, hb20, ho20⟩
  clear YA
  replace HB : Hid (Below w.heap.size w _) := HB.out.trans (hb20.below (by omega) HB.out.size)
  replace HR : Hid (Bk _ _ _) := Bk.betw HR.out hb20 (by omega)
  replace HE : Hid (Bk _ _ _) := Bk.betw HE.out hb20 (by omega)
  replace HI : Hid (Bk _ _ _) := Bk.betw HI.out hb20 (by omega)
  replace SV0 : Hid (Bk _ _ _) := Bk.betw SV0.out hb20 (by omega)
  replace SV1 : Hid (Bk _ _ _) := Bk.betw SV1.out hb20 (by omega)
  replace SA1 : Hid (OE _ _ _ _ _) := OE.betw SA1.out hb20 (by omega)
  replace SA2 : Hid (OE _ _ _ _ _) := OE.betw SA2.out hb20 (by omega)
  replace XV : Hid (Bk _ _ _) := Bk.betw XV.out hb20 (by omega)
  replace YV : Hid (Bk _ _ _) := Bk.betw YV.out hb20 (by omega)
  replace GV0 : Hid (Bk _ _ _) := Bk.betw GV0.out hb20 (by omega)
  replace GV1 : Hid (Bk _ _ _) := Bk.betw GV1.out hb20 (by omega)
  replace GA1 : Hid (OE _ _ _ _ _) := OE.betw GA1.out hb20 (by omega)
  replace GA2 : Hid (OE _ _ _ _ _) := OE.betw GA2.out hb20 (by omega)
  have hz20 := hb20.size
  clear hb20 ho20
  obtain ⟨K2, HK2⟩ : ∃ K, Hid (K1 + m = K) := ⟨K1 + m, (rfl : K1 + m = K1 + m)⟩
  have hK2 : ¬ ((K2 : Int) < 0) := by omega
  have hK2b : K2 ≤ 4000000 := by have := HK2.out; omega
  rw [HK2.out]
  clear g0
  have g0 := GV0.out.cell 0 _ rfl
  have g1 := GV0.out.cell 1 _ rfl
  have s0 := SV0.out.cell 0 _ rfl
  have s1 := SV0.out.cell 1 _ rfl
  go_wp2_with fail
  refine Calls.mono (eq_out rh none none 0 0 0 [] _ (OE.seg (OE.nil _ 0 0 _)) (OE.seg (OE.nil _ 0 0 _)) rfl (by omega)) ?_
  rintro u w21 ⟨rfl, hb21⟩
  clear g0 g1
  clear s0 s1
  replace HB : Hid (Below w.heap.size w _) := HB.out.trans (hb21.mono HB.out.size)
  replace HR : Hid (Bk _ _ _) := Bk.below HR.out hb21
  replace HE : Hid (Bk _ _ _) := Bk.below HE.out hb21
  replace HI : Hid (Bk _ _ _) := Bk.below HI.out hb21
  replace SV0 : Hid (Bk _ _ _) := Bk.below SV0.out hb21
  replace SV1 : Hid (Bk _ _ _) := Bk.below SV1.out hb21
  replace SA1 : Hid (OE _ _ _ _ _) := OE.below SA1.out hb21
  replace SA2 : Hid (OE _ _ _ _ _) := OE.below SA2.out hb21
  replace XV : Hid (Bk _ _ _) := Bk.below XV.out hb21
  replace YV : Hid (Bk _ _ _) := Bk.below YV.out hb21
  replace GV0 : Hid (Bk _ _ _) := Bk.below GV0.out hb21
  replace GV1 : Hid (Bk _ _ _) := Bk.below GV1.out hb21
  replace GA1 : Hid (OE _ _ _ _ _) := OE.below GA1.out hb21
  replace GA2 : Hid (OE _ _ _ _ _) := OE.below GA2.out hb21
  have hz21 := hb21.size
  clear hb21
  have g0 := GV1.out.cell 0 _ rfl
  have s0 := SV1.out.cell 0 _ rfl
  go_wp2_with fail
  refine Calls.mono (eq_in r1 p1 d1 c1 yl ys _ (OE.seg GA1.out) (OE.seg SA1.out) HYL.out hyl) ?_
  rintro u w22 ⟨rfl, hb22⟩
  clear g0
  clear s0
  replace HB : Hid (Below w.heap.size w _) := HB.out.trans (hb22.mono HB.out.size)
  replace HR : Hid (Bk _ _ _) := Bk.below HR.out hb22
  replace HE : Hid (Bk _ _ _) := Bk.below HE.out hb22
  replace HI : Hid (Bk _ _ _) := Bk.below HI.out hb22
  replace SV0 : Hid (Bk _ _ _) := Bk.below SV0.out hb22
  replace SV1 : Hid (Bk _ _ _) := Bk.below SV1.out hb22
  replace SA1 : Hid (OE _ _ _ _ _) := OE.below SA1.out hb22
  replace SA2 : Hid (OE _ _ _ _ _) := OE.below SA2.out hb22
  replace XV : Hid (Bk _ _ _) := Bk.below XV.out hb22
  replace YV : Hid (Bk _ _ _) := Bk.below YV.out hb22
  replace GV0 : Hid (Bk _ _ _) := Bk.below GV0.out hb22
  replace GV1 : Hid (Bk _ _ _) := Bk.below GV1.out hb22
  replace GA1 : Hid (OE _ _ _ _ _) := OE.below GA1.out hb22
  replace GA2 : Hid (OE _ _ _ _ _) := OE.below GA2.out hb22
  have hz22 := hb22.size
  clear hb22
  go_wp2_with fail
  refine Calls.mono (eq_regs r2 p2 d2 c2 xl xs _ (OE.seg GA2.out) (OE.seg SA2.out) HXL.out hxl) ?_
  rintro u w23 ⟨rfl, hb23⟩
  replace HB : Hid (Below w.heap.size w _) := HB.out.trans (hb23.mono HB.out.size)
  replace HR : Hid (Bk _ _ _) := Bk.below HR.out hb23
  replace HE : Hid (Bk _ _ _) := Bk.below HE.out hb23
  replace HI : Hid (Bk _ _ _) := Bk.below HI.out hb23
  replace SV0 : Hid (Bk _ _ _) := Bk.below SV0.out hb23
  replace SV1 : Hid (Bk _ _ _) := Bk.below SV1.out hb23
  replace SA1 : Hid (OE _ _ _ _ _) := OE.below SA1.out hb23
  replace SA2 : Hid (OE _ _ _ _ _) := OE.below SA2.out hb23
  replace XV : Hid (Bk _ _ _) := Bk.below XV.out hb23
  replace YV : Hid (Bk _ _ _) := Bk.below YV.out hb23
  replace GV0 : Hid (Bk _ _ _) := Bk.below GV0.out hb23
  replace GV1 : Hid (Bk _ _ _) := Bk.below GV1.out hb23
  replace GA1 : Hid (OE _ _ _ _ _) := OE.below GA1.out hb23
  replace GA2 : Hid (OE _ _ _ _ _) := OE.below GA2.out hb23
  have hz23 := hb23.size
  clear hb23
  have g0 := GV0.out.cell 0 _ rfl
  have g1 := GV0.out.cell 1 _ rfl
  go_wp2_with fail
  refine Calls.mono (mark_out rh WG.heap.size WG.heap.size 0 0 1 none [] _ (OE.nil _ _ _ _) rfl (by omega) (by omega) (by omega)) ?_
  rintro u w24 ⟨rfl, hb24, ho24⟩
  replace HB : Hid (Below w.heap.size w _) := HB.out.trans (hb24.below (by omega) HB.out.size)
  replace HR : Hid (Bk _ _ _) := Bk.betw HR.out hb24 (by omega)
  replace HE : Hid (Bk _ _ _) := Bk.betw HE.out hb24 (by omega)
  replace HI : Hid (Bk _ _ _) := Bk.betw HI.out hb24 (by omega)
  replace SV0 : Hid (Bk _ _ _) := Bk.betw SV0.out hb24 (by omega)
  replace SV1 : Hid (Bk _ _ _) := Bk.betw SV1.out hb24 (by omega)
  replace SA1 : Hid (OE _ _ _ _ _) := OE.betw SA1.out hb24 (by omega)
  replace SA2 : Hid (OE _ _ _ _ _) := OE.betw SA2.out hb24 (by omega)
  replace XV : Hid (Bk _ _ _) := Bk.betw XV.out hb24 (by omega)
  replace YV : Hid (Bk _ _ _) := Bk.betw YV.out hb24 (by omega)
  replace GV0 : Hid (Bk _ _ _) := Bk.betw GV0.out hb24 (by omega)
  replace GV1 : Hid (Bk _ _ _) := Bk.betw GV1.out hb24 (by omega)
  replace GA1 : Hid (OE _ _ _ _ _) := OE.betw GA1.out hb24 (by omega)
  replace GA2 : Hid (OE _ _ _ _ _) := OE.betw GA2.out hb24 (by omega)
  have hz24 := hb24.size
  clear hb24 ho24
  obtain ⟨J1, HJ1⟩ : ∃ K, Hid (1 + 0 = K) := ⟨1 + 0, (rfl : 1 + 0 = 1 + 0)⟩
  have hJ1 : ¬ ((J1 : Int) < 0) := by omega
  have hJ1b : J1 ≤ 10 := by have := HJ1.out; omega
  rw [HJ1.out]
  clear g0 g1
  have g0 := GV1.out.cell 0 _ rfl
  go_wp2_with fail
  refine Calls.mono (mark_in m1 v1 d1 yl J1 r1 ys _ GA1.out HYL.out hyl (by omega) (by omega)) ?_
  rintro u w25 ⟨rfl, hb25, ho25⟩
  clear GA1
  replace HB : Hid (Below w.heap.size w _) := HB.out.trans (hb25.below (by omega) HB.out.size)
  replace HR : Hid (Bk _ _ _) := Bk.betw HR.out hb25 (by omega)
  replace HE : Hid (Bk _ _ _) := Bk.betw HE.out hb25 (by omega)
  replace HI : Hid (Bk _ _ _) := Bk.betw HI.out hb25 (by omega)
  replace SV0 : Hid (Bk _ _ _) := Bk.betw SV0.out hb25 (by omega)
  replace SV1 : Hid (Bk _ _ _) := Bk.betw SV1.out hb25 (by omega)
  replace SA1 : Hid (OE _ _ _ _ _) := OE.betw SA1.out hb25 (by omega)
  replace SA2 : Hid (OE _ _ _ _ _) := OE.betw SA2.out hb25 (by omega)
  replace XV : Hid (Bk _ _ _) := Bk.betw XV.out hb25 (by omega)
  replace YV : Hid (Bk _ _ _) := Bk.betw YV.out hb25 (by omega)
  replace GV0 : Hid (Bk _ _ _) := Bk.betw GV0.out hb25 (by omega)
  replace GV1 : Hid (Bk _ _ _) := Bk.betw GV1.out hb25 (by omega)
  replace GA2 : Hid (OE _ _ _ _ _) := OE.betw GA2.out hb25 (by omega)
  have GM1 : Hid (OE w25 m1 v1 r1 (marksM 4294967296 J1 yl)) := ho25
  have hz25 := hb25.size
  clear hb25 ho25
  obtain ⟨J2, HJ2⟩ : ∃ K, Hid (J1 + yl = K) := ⟨J1 + yl, (rfl : J1 + yl = J1 + yl)⟩
  have hJ2 : ¬ ((J2 : Int) < 0) := by omega
  have hJ2b : J2 ≤ 2000000 := by have := HJ2.out; omega
  rw [HJ2.out]
  clear g0
  go_wp2_with fail
  refine Calls.mono (mark_l m2 v2 d2 xl J2 r2 xs _ GA2.out HXL.out hxl (by omega) (by omega)) ?_
  rintro u w26 ⟨rfl, hb26, ho26⟩
  clear GA2
  replace HB : Hid (Below w.heap.size w _) := HB.out.trans (hb26.below (by omega) HB.out.size)
  replace HR : Hid (Bk _ _ _) := Bk.betw HR.out hb26 (by omega)
  replace HE : Hid (Bk _ _ _) := Bk.betw HE.out hb26 (by omega)
  replace HI : Hid (Bk _ _ _) := Bk.betw HI.out hb26 (by omega)
  replace SV0 : Hid (Bk _ _ _) := Bk.betw SV0.out hb26 (by omega)
  replace SV1 : Hid (Bk _ _ _) := Bk.betw SV1.out hb26 (by omega)
  replace SA1 : Hid (OE _ _ _ _ _) := OE.betw SA1.out hb26 (by omega)
  replace SA2 : Hid (OE _ _ _ _ _) := OE.betw SA2.out hb26 (by omega)
  replace XV : Hid (Bk _ _ _) := Bk.betw XV.out hb26 (by omega)
  replace YV : Hid (Bk _ _ _) := Bk.betw YV.out hb26 (by omega)
  replace GV0 : Hid (Bk _ _ _) := Bk.betw GV0.out hb26 (by omega)
  replace GV1 : Hid (Bk _ _ _) := Bk.betw GV1.out hb26 (by omega)
  replace GM1 : Hid (OE _ _ _ _ _) := OE.betw GM1.out hb26 (by omega)
  have GM2 : Hid (OE w26 m2 v2 r2 (marksM 4294967296 J2 xl)) := ho26
  have hz26 := hb26.size
  clear hb26 ho26
  obtain ⟨J3, HJ3⟩ : ∃ K, Hid (J2 + xl = K) := ⟨J2 + xl, (rfl : J2 + xl = J2 + xl)⟩
  have hJ3 : ¬ ((J3 : Int) < 0) := by omega
  have hJ3b : J3 ≤ 4000000 := by have := HJ3.out; omega
  rw [HJ3.out]
  have g0 := GV0.out.cell 0 _ rfl
  have g1 := GV0.out.cell 1 _ rfl
  go_wp2_with fail
  refine Calls.mono (held_out rh 0 0 1 none _ (OE.seg (OE.nil _ 0 0 _)) (by omega) (by omega)) ?_
  rintro u w27 ⟨rfl, hb27⟩
  clear g0 g1
  replace HB : Hid (Below w.heap.size w _) := HB.out.trans (hb27.mono HB.out.size)
  replace HR : Hid (Bk _ _ _) := Bk.below HR.out hb27
  replace HE : Hid (Bk _ _ _) := Bk.below HE.out hb27
  replace HI : Hid (Bk _ _ _) := Bk.below HI.out hb27
  replace SV0 : Hid (Bk _ _ _) := Bk.below SV0.out hb27
  replace SV1 : Hid (Bk _ _ _) := Bk.below SV1.out hb27
  replace SA1 : Hid (OE _ _ _ _ _) := OE.below SA1.out hb27
  replace SA2 : Hid (OE _ _ _ _ _) := OE.below SA2.out hb27
  replace XV : Hid (Bk _ _ _) := Bk.below XV.out hb27
  replace YV : Hid (Bk _ _ _) := Bk.below YV.out hb27
  replace GV0 : Hid (Bk _ _ _) := Bk.below GV0.out hb27
  replace GV1 : Hid (Bk _ _ _) := Bk.below GV1.out hb27
  replace GM1 : Hid (OE _ _ _ _ _) := OE.below GM1.out hb27
  replace GM2 : Hid (OE _ _ _ _ _) := OE.below GM2.out hb27
  have hz27 := hb27.size
  clear hb27
  rw [HJ1.out]
  have g0 := GV1.out.cell 0 _ rfl
  go_wp2_with fail
  refine Calls.mono (held_in d1 yl J1 r1 _ (OE.seg GM1.out) hyl (by omega)) ?_
  rintro u w28 ⟨rfl, hb28⟩
  clear g0
  replace HB : Hid (Below w.heap.size w _) := HB.out.trans (hb28.mono HB.out.size)
  replace HR : Hid (Bk _ _ _) := Bk.below HR.out hb28
  replace HE : Hid (Bk _ _ _) := Bk.below HE.out hb28
  replace HI : Hid (Bk _ _ _) := Bk.below HI.out hb28
  replace SV0 : Hid (Bk _ _ _) := Bk.below SV0.out hb28
  replace SV1 : Hid (Bk _ _ _) := Bk.below SV1.out hb28
  replace SA1 : Hid (OE _ _ _ _ _) := OE.below SA1.out hb28
  replace SA2 : Hid (OE _ _ _ _ _) := OE.below SA2.out hb28
  replace XV : Hid (Bk _ _ _) := Bk.below XV.out hb28
  replace YV : Hid (Bk _ _ _) := Bk.below YV.out hb28
  replace GV0 : Hid (Bk _ _ _) := Bk.below GV0.out hb28
  replace GV1 : Hid (Bk _ _ _) := Bk.below GV1.out hb28
  replace GM1 : Hid (OE _ _ _ _ _) := OE.below GM1.out hb28
  replace GM2 : Hid (OE _ _ _ _ _) := OE.below GM2.out hb28
  have hz28 := hb28.size
  clear hb28
  rw [HJ2.out]
  go_wp2_with fail
  refine Calls.mono (held_regs r2 d2 xl J2 _ (OE.seg GM2.out) hxl (by omega)) ?_
  rintro u w29 ⟨rfl, hb29⟩
  replace HB : Hid (Below w.heap.size w _) := HB.out.trans (hb29.mono HB.out.size)
  replace HR : Hid (Bk _ _ _) := Bk.below HR.out hb29
  replace HE : Hid (Bk _ _ _) := Bk.below HE.out hb29
  replace HI : Hid (Bk _ _ _) := Bk.below HI.out hb29
  replace SV0 : Hid (Bk _ _ _) := Bk.below SV0.out hb29
  replace SV1 : Hid (Bk _ _ _) := Bk.below SV1.out hb29
  replace SA1 : Hid (OE _ _ _ _ _) := OE.below SA1.out hb29
  replace SA2 : Hid (OE _ _ _ _ _) := OE.below SA2.out hb29
  replace XV : Hid (Bk _ _ _) := Bk.below XV.out hb29
  replace YV : Hid (Bk _ _ _) := Bk.below YV.out hb29
  replace GV0 : Hid (Bk _ _ _) := Bk.below GV0.out hb29
  replace GV1 : Hid (Bk _ _ _) := Bk.below GV1.out hb29
  replace GM1 : Hid (OE _ _ _ _ _) := OE.below GM1.out hb29
  replace GM2 : Hid (OE _ _ _ _ _) := OE.below GM2.out hb29
  have hz29 := hb29.size
  clear hb29
  rw [HJ3.out]
  have hrow2 : w.heap.size + 1 + 1 < w29.heap.size := HI.out.lt
  try go_wp2
  go_cut [19, 20, 21] from 135 (fun s8 s9 s10 wc => ∃ b8 b9 p1 c1 p2 c2, s8 = Value.pointer (some ⟨b8, 0, none⟩) ∧ s9 = Value.pointer (some ⟨b9, 0, none⟩) ∧ s10 = Value.slice p2 xl c2 ∧ BF w29 wc b8 b9 rh p1 yl c1 ys p2 xs)
  case first =>
    refine wp_region_inv (by kernel_rfl) (by kernel_rfl) (fun A ℓ a' w' => ∃ (a1 a2 p1 : Option Addr) (c1 : Nat) (p2 : Option Addr) (c2 l1 u1 l2 u2 b8 b9 : Nat) (x136 x137 x138 x139 x140 x141 x142 x135 x143 x144 x145 x19 x20 x21 : Value), a' = ((((((((((((((A.put (some 136) x136).put (some 137) x137).put (some 138) x138).put (some 139) x139).put (some 140) x140).put (some 141) x141).put (some 142) x142).put (some 135) x135).put (some 143) x143).put (some 144) x144).put (some 145) x145).put (some 19) x19).put (some 20) x20).put (some 21) x21) ∧ RI w29 rh yl ys xs zs rs (ℓ 3) (ℓ 5) (ℓ 6) (ℓ 11) (ℓ 12) (ℓ 13) (ℓ 14) a1 a2 p1 c1 p2 l1 u1 l2 u2 b8 b9 w' ∧ Hid (ℓ 0 = true → x136 = crw rk rf rt rd) ∧ Hid (ℓ 1 = true → x137 = crw rk rf rt rd) ∧ Hid (ℓ 2 = true → x138 = oen hd a n cap) ∧ Hid (ℓ 3 = true → x139 = oen hd a1 n n) ∧ Hid (ℓ 4 = true → x140 = ien ar m capr) ∧ Hid (ℓ 5 = true → x141 = ien a2 m m) ∧ Hid (ℓ 6 = true → x142 = .tuple #[oen rh none 0 0, ien p1 yl c1, .slice p2 xl c2]) ∧ Hid (ℓ 7 = true → ℓ 6 = true ∧ x135 = .tuple #[oen rh none 0 0, ien p1 yl c1, .slice p2 xl c2]) ∧ Hid (ℓ 8 = true → x143 = oen rh none 0 0) ∧ Hid (ℓ 9 = true → ℓ 6 = true ∧ x144 = ien p1 yl c1) ∧ Hid (ℓ 10 = true → ℓ 6 = true ∧ x145 = .slice p2 xl c2) ∧ Hid (ℓ 11 = true → x19 = .pointer (some ⟨b8, 0, none⟩)) ∧ Hid (ℓ 12 = true → x20 = .pointer (some ⟨b9, 0, none⟩)) ∧ Hid (ℓ 15 = true → ℓ 6 = true ∧ x21 = .slice p2 xl c2)) ?_ ?_ ?_ ?_
    · exact ⟨none, none, none, 0, none, 0, 0, 0, 0, 0, 0, 0, u136, u137, u138, u139, u140, u141, u142, u135, u143, u144, u145, undef, undef, undef, (by simp only [Act.put, List.setIfInBounds_toArray, List.set_cons_zero, List.set_cons_succ]), RI.start (Below.refl _ _).drew _ _ _ _ _ _ _ _ _ _ _, (show _ → _ from fun g => by cases g), (show _ → _ from fun g => by cases g), (show _ → _ from fun g => by cases g), (show _ → _ from fun g => by cases g), (show _ → _ from fun g => by cases g), (show _ → _ from fun g => by cases g), (show _ → _ from fun g => by cases g), (show _ → _ from fun g => by cases g), (show _ → _ from fun g => by cases g), (show _ → _ from fun g => by cases g), (show _ → _ from fun g => by cases g), (show _ → _ from fun g => by cases g), (show _ → _ from fun g => by cases g), (show _ → _ from fun g => by cases g)⟩
    · intro ℓ a' w' hI hall
      obtain ⟨a1, a2, p1, c1, p2, c2, l1, u1, l2, u2, b8, b9, x136, x137, x138, x139, x140, x141, x142, x135, x143, x144, x145, x19, x20, x21, rfl, hr, f0, f1, f2, f3, f4, f5, f6, f7, f8, f9, f10, f11, f12, f15⟩ := hI
      have hall' : ∀ i, i < 16 → ℓ i = true := hall
      have g0 : ℓ 0 = true := hall' 0 (by omega)
      obtain rfl := f0.out g0
      have g1 : ℓ 1 = true := hall' 1 (by omega)
      obtain rfl := f1.out g1
      have g2 : ℓ 2 = true := hall' 2 (by omega)
      obtain rfl := f2.out g2
      have g3 : ℓ 3 = true := hall' 3 (by omega)
      obtain rfl := f3.out g3
      have g4 : ℓ 4 = true := hall' 4 (by omega)
      obtain rfl := f4.out g4
      have g5 : ℓ 5 = true := hall' 5 (by omega)
      obtain rfl := f5.out g5
      have g6 : ℓ 6 = true := hall' 6 (by omega)
      obtain rfl := f6.out g6
      have g7 : ℓ 7 = true := hall' 7 (by omega)
      obtain ⟨_, rfl⟩ := f7.out g7
      have g8 : ℓ 8 = true := hall' 8 (by omega)
      obtain rfl := f8.out g8
      have g9 : ℓ 9 = true := hall' 9 (by omega)
      obtain ⟨_, rfl⟩ := f9.out g9
      have g10 : ℓ 10 = true := hall' 10 (by omega)
      obtain ⟨_, rfl⟩ := f10.out g10
      have g11 : ℓ 11 = true := hall' 11 (by omega)
      obtain rfl := f11.out g11
      have g12 : ℓ 12 = true := hall' 12 (by omega)
      obtain rfl := f12.out g12
      have g15 : ℓ 15 = true := hall' 15 (by omega)
      obtain ⟨_, rfl⟩ := f15.out g15
      rw [g6, g11, g12, hall' 13 (by omega), hall' 14 (by omega)] at hr
      have hF := hr.fin
      clear hr
      simp only [Act.put, List.setIfInBounds_toArray, List.set_cons_zero, List.set_cons_succ]
      go_wp2_with fail
      go_meet
      exact ⟨_, _, _, _, _, _, rfl, rfl, rfl, hF⟩
    · intro ℓ a' w' i o hI ho hi hL hdep K hK
      obtain ⟨a1, a2, p1, c1, p2, c2, l1, u1, l2, u2, b8, b9, x136, x137, x138, x139, x140, x141, x142, x135, x143, x144, x145, x19, x20, x21, rfl, hr, f0, f1, f2, f3, f4, f5, f6, f7, f8, f9, f10, f11, f12, f15⟩ := hI
      have hi16 : i < 16 := hi
      have hcs : i = 0 ∨ i = 1 ∨ i = 2 ∨ i = 3 ∨ i = 4 ∨ i = 5 ∨ i = 6 ∨ i = 7 ∨ i = 8 ∨ i = 9 ∨ i = 10 ∨ i = 11 ∨ i = 12 ∨ i = 13 ∨ i = 14 ∨ i = 15 := by omega
      clear hi hi16
      rcases hcs with rfl | rfl | rfl | rfl | rfl | rfl | rfl | rfl | rfl | rfl | rfl | rfl | rfl | rfl | rfl | rfl
      · obtain rfl := Option.some.inj ho
        clear hdep ho
        rw [if_pos (by rfl)]
        try simp only [Act.put, List.setIfInBounds_toArray, List.set_cons_zero, List.set_cons_succ]
        have q0 : w'.cell? ⟨w.heap.size, 0, none⟩ = some (.int .i64 rk) := kept_c hr.gb (HR.out.cell 0 _ rfl)
        have q1 : w'.cell? ⟨w.heap.size, 1, none⟩ = some (.int .i64 rf) := kept_c hr.gb (HR.out.cell 1 _ rfl)
        have q2 : w'.cell? ⟨w.heap.size, 2, none⟩ = some (.int .i64 rt) := kept_c hr.gb (HR.out.cell 2 _ rfl)
        have q3 : w'.cell? ⟨w.heap.size, 3, none⟩ = some (.int .i64 rd) := kept_c hr.gb (HR.out.cell 3 _ rfl)
        go_simp
        exact hK.out _ _ (fun j => if j = 0 then true else ℓ j) ⟨a1, a2, p1, c1, p2, c2, l1, u1, l2, u2, b8, b9, (crw rk rf rt rd), x137, x138, x139, x140, x141, x142, x135, x143, x144, x145, x19, x20, x21, (by simp only [Act.put, List.setIfInBounds_toArray, List.set_cons_zero, List.set_cons_succ]), hr, (show _ → _ from fun _ => rfl), f1, f2, f3, f4, f5, f6, f7, f8, f9, f10, f11, f12, f15⟩ (if_pos rfl) (fun j hj => if_neg hj)
      · obtain rfl := Option.some.inj ho
        have g0 : ℓ 0 = true := hdep { on := 0, ground := Ground.data } (by simp) rfl
        clear hdep ho
        obtain rfl := f0.out g0
        rw [if_pos (by rfl)]
        try simp only [Act.put, List.setIfInBounds_toArray, List.set_cons_zero, List.set_cons_succ]
        go_simp
        refine Calls.mono (to_row rk rf rt rd _) ?_
        rintro u w1 ⟨rfl, hb1⟩
        exact hK.out _ _ (fun j => if j = 1 then true else ℓ j) ⟨a1, a2, p1, c1, p2, c2, l1, u1, l2, u2, b8, b9, (crw rk rf rt rd), (crw rk rf rt rd), x138, x139, x140, x141, x142, x135, x143, x144, x145, x19, x20, x21, (by simp only [Act.put, List.setIfInBounds_toArray, List.set_cons_zero, List.set_cons_succ]), (hr.below hb1), (show _ → _ from fun _ => rfl), (show _ → _ from fun _ => rfl), f2, f3, f4, f5, f6, f7, f8, f9, f10, f11, f12, f15⟩ (if_pos rfl) (fun j hj => if_neg hj)
      · obtain rfl := Option.some.inj ho
        clear hdep ho
        rw [if_pos (by rfl)]
        try simp only [Act.put, List.setIfInBounds_toArray, List.set_cons_zero, List.set_cons_succ]
        have q0 : w'.cell? ⟨w.heap.size + 1, 0, none⟩ = some (.int .i64 hd) := kept_c hr.gb (HE.out.cell 0 _ rfl)
        have q1 : w'.cell? ⟨w.heap.size + 1, 1, none⟩ = some (.slice a n cap) := kept_c hr.gb (HE.out.cell 1 _ rfl)
        go_simp
        exact hK.out _ _ (fun j => if j = 2 then true else ℓ j) ⟨a1, a2, p1, c1, p2, c2, l1, u1, l2, u2, b8, b9, x136, x137, (oen hd a n cap), x139, x140, x141, x142, x135, x143, x144, x145, x19, x20, x21, (by simp only [Act.put, List.setIfInBounds_toArray, List.set_cons_zero, List.set_cons_succ]), hr, f0, f1, (show _ → _ from fun _ => rfl), f3, f4, f5, f6, f7, f8, f9, f10, f11, f12, f15⟩ (if_pos rfl) (fun j hj => if_neg hj)
      · obtain rfl := Option.some.inj ho
        have g2 : ℓ 2 = true := hdep { on := 2, ground := Ground.data } (by simp) rfl
        clear hdep ho
        obtain rfl := f2.out g2
        rw [if_pos (by rfl)]
        try simp only [Act.put, List.setIfInBounds_toArray, List.set_cons_zero, List.set_cons_succ]
        go_simp
        refine Calls.mono (TOO.out _ (HB.out.trans (hr.gb.mono HB.out.size))) ?_
        rintro u w1 ⟨an, rfl, hb1, ho1⟩
        exact hK.out _ _ (fun j => if j = 3 then true else ℓ j) ⟨an, a2, p1, c1, p2, c2, l1, u1, l2, u2, b8, b9, x136, x137, (oen hd a n cap), (oen hd an n n), x140, x141, x142, x135, x143, x144, x145, x19, x20, x21, (by simp only [Act.put, List.setIfInBounds_toArray, List.set_cons_zero, List.set_cons_succ]), ((hr.below hb1).to1 an (OE.seg ho1)), f0, f1, (show _ → _ from fun _ => rfl), (show _ → _ from fun _ => rfl), f4, f5, f6, f7, f8, f9, f10, f11, f12, f15⟩ (if_pos rfl) (fun j hj => if_neg hj)
      · obtain rfl := Option.some.inj ho
        clear hdep ho
        rw [if_pos (by rfl)]
        try simp only [Act.put, List.setIfInBounds_toArray, List.set_cons_zero, List.set_cons_succ]
        have q0 : w'.cell? ⟨w.heap.size + 1 + 1, 0, none⟩ = some (.slice ar m capr) := kept_c hr.gb (HI.out.cell 0 _ rfl)
        go_simp
        exact hK.out _ _ (fun j => if j = 4 then true else ℓ j) ⟨a1, a2, p1, c1, p2, c2, l1, u1, l2, u2, b8, b9, x136, x137, x138, x139, (ien ar m capr), x141, x142, x135, x143, x144, x145, x19, x20, x21, (by simp only [Act.put, List.setIfInBounds_toArray, List.set_cons_zero, List.set_cons_succ]), hr, f0, f1, f2, f3, (show _ → _ from fun _ => rfl), f5, f6, f7, f8, f9, f10, f11, f12, f15⟩ (if_pos rfl) (fun j hj => if_neg hj)
      · obtain rfl := Option.some.inj ho
        have g4 : ℓ 4 = true := hdep { on := 4, ground := Ground.data } (by simp) rfl
        clear hdep ho
        obtain rfl := f4.out g4
        rw [if_pos (by rfl)]
        try simp only [Act.put, List.setIfInBounds_toArray, List.set_cons_zero, List.set_cons_succ]
        go_simp
        refine Calls.mono (TOI.out _ (HB.out.trans (hr.gb.mono HB.out.size))) ?_
        rintro u w1 ⟨an, rfl, hb1, ho1⟩
        exact hK.out _ _ (fun j => if j = 5 then true else ℓ j) ⟨a1, an, p1, c1, p2, c2, l1, u1, l2, u2, b8, b9, x136, x137, x138, x139, (ien ar m capr), (ien an m m), x142, x135, x143, x144, x145, x19, x20, x21, (by simp only [Act.put, List.setIfInBounds_toArray, List.set_cons_zero, List.set_cons_succ]), ((hr.below hb1).to2 an (OE.seg ho1)), f0, f1, f2, f3, (show _ → _ from fun _ => rfl), (show _ → _ from fun _ => rfl), f6, f7, f8, f9, f10, f11, f12, f15⟩ (if_pos rfl) (fun j hj => if_neg hj)
      · obtain rfl := Option.some.inj ho
        have g1 : ℓ 1 = true := hdep { on := 1, ground := Ground.data } (by simp) rfl
        have g3 : ℓ 3 = true := hdep { on := 3, ground := Ground.data } (by simp) rfl
        have g5 : ℓ 5 = true := hdep { on := 5, ground := Ground.data } (by simp) rfl
        clear hdep ho
        obtain rfl := f1.out g1
        obtain rfl := f3.out g3
        obtain rfl := f5.out g5
        rw [if_pos (by rfl)]
        try simp only [Act.put, List.setIfInBounds_toArray, List.set_cons_zero, List.set_cons_succ]
        go_simp
        refine Calls.mono (IM.out _ a1 a2 (hr.s1 g3 hL) (hr.s2 g5 hL)) ?_
        rintro u w1 ⟨q1, d1, q2, d2, rfl, hb1, ho1⟩
        obtain ⟨m1, v1, m2, v2, hr2⟩ := hr.sp hL hb1 q1 d1 q2 ho1
        exact hK.out _ _ (fun j => if j = 6 then true else ℓ j) ⟨a1, a2, q1, d1, q2, d2, m1, v1, m2, v2, b8, b9, x136, (crw rk rf rt rd), x138, (oen hd a1 n n), x140, (ien a2 m m), (.tuple #[oen rh none 0 0, ien q1 yl d1, .slice q2 xl d2]), x135, x143, x144, x145, x19, x20, x21, (by simp only [Act.put, List.setIfInBounds_toArray, List.set_cons_zero, List.set_cons_succ]), hr2, f0, (show _ → _ from fun _ => rfl), f2, (show _ → _ from fun _ => rfl), f4, (show _ → _ from fun _ => rfl), (show _ → _ from fun _ => rfl), (show _ → _ from fun g => absurd ((f7.out g).1.symm.trans hL) (by decide)), f8, (show _ → _ from fun g => absurd ((f9.out g).1.symm.trans hL) (by decide)), (show _ → _ from fun g => absurd ((f10.out g).1.symm.trans hL) (by decide)), f11, f12, (show _ → _ from fun g => absurd ((f15.out g).1.symm.trans hL) (by decide))⟩ (if_pos rfl) (fun j hj => if_neg hj)
      · obtain rfl := Option.some.inj ho
        have g6 : ℓ 6 = true := hdep { on := 6, ground := Ground.data } (by simp) rfl
        clear hdep ho
        obtain rfl := f6.out g6
        have gc := g6
        rw [if_pos (by rfl)]
        try simp only [Act.put, List.setIfInBounds_toArray, List.set_cons_zero, List.set_cons_succ]
        go_simp
        exact hK.out _ _ (fun j => if j = 7 then true else ℓ j) ⟨a1, a2, p1, c1, p2, c2, l1, u1, l2, u2, b8, b9, x136, x137, x138, x139, x140, x141, (.tuple #[oen rh none 0 0, ien p1 yl c1, .slice p2 xl c2]), (.tuple #[oen rh none 0 0, ien p1 yl c1, .slice p2 xl c2]), x143, x144, x145, x19, x20, x21, (by simp only [Act.put, List.setIfInBounds_toArray, List.set_cons_zero, List.set_cons_succ]), hr, f0, f1, f2, f3, f4, f5, (show _ → _ from fun _ => rfl), (show _ → _ from fun _ => ⟨gc, rfl⟩), f8, f9, f10, f11, f12, f15⟩ (if_pos rfl) (fun j hj => if_neg hj)
      · obtain rfl := Option.some.inj ho
        have g7 : ℓ 7 = true := hdep { on := 7, ground := Ground.data } (by simp) rfl
        clear hdep ho
        have gc := (f7.out g7).1; have hx7 := (f7.out g7).2; clear f7; subst hx7
        rw [if_pos (by rfl)]
        try simp only [Act.put, List.setIfInBounds_toArray, List.set_cons_zero, List.set_cons_succ]
        go_simp
        exact hK.out _ _ (fun j => if j = 8 then true else ℓ j) ⟨a1, a2, p1, c1, p2, c2, l1, u1, l2, u2, b8, b9, x136, x137, x138, x139, x140, x141, x142, (.tuple #[oen rh none 0 0, ien p1 yl c1, .slice p2 xl c2]), (oen rh none 0 0), x144, x145, x19, x20, x21, (by simp only [Act.put, List.setIfInBounds_toArray, List.set_cons_zero, List.set_cons_succ]), hr, f0, f1, f2, f3, f4, f5, f6, (show _ → _ from fun _ => ⟨gc, rfl⟩), (show _ → _ from fun _ => rfl), f9, f10, f11, f12, f15⟩ (if_pos rfl) (fun j hj => if_neg hj)
      · obtain rfl := Option.some.inj ho
        have g7 : ℓ 7 = true := hdep { on := 7, ground := Ground.data } (by simp) rfl
        clear hdep ho
        have gc := (f7.out g7).1; have hx7 := (f7.out g7).2; clear f7; subst hx7
        rw [if_pos (by rfl)]
        try simp only [Act.put, List.setIfInBounds_toArray, List.set_cons_zero, List.set_cons_succ]
        go_simp
        exact hK.out _ _ (fun j => if j = 9 then true else ℓ j) ⟨a1, a2, p1, c1, p2, c2, l1, u1, l2, u2, b8, b9, x136, x137, x138, x139, x140, x141, x142, (.tuple #[oen rh none 0 0, ien p1 yl c1, .slice p2 xl c2]), x143, (ien p1 yl c1), x145, x19, x20, x21, (by simp only [Act.put, List.setIfInBounds_toArray, List.set_cons_zero, List.set_cons_succ]), hr, f0, f1, f2, f3, f4, f5, f6, (show _ → _ from fun _ => ⟨gc, rfl⟩), f8, (show _ → _ from fun _ => ⟨gc, rfl⟩), f10, f11, f12, f15⟩ (if_pos rfl) (fun j hj => if_neg hj)
      · obtain rfl := Option.some.inj ho
        have g7 : ℓ 7 = true := hdep { on := 7, ground := Ground.data } (by simp) rfl
        clear hdep ho
        have gc := (f7.out g7).1; have hx7 := (f7.out g7).2; clear f7; subst hx7
        rw [if_pos (by rfl)]
        try simp only [Act.put, List.setIfInBounds_toArray, List.set_cons_zero, List.set_cons_succ]
        go_simp
        exact hK.out _ _ (fun j => if j = 10 then true else ℓ j) ⟨a1, a2, p1, c1, p2, c2, l1, u1, l2, u2, b8, b9, x136, x137, x138, x139, x140, x141, x142, (.tuple #[oen rh none 0 0, ien p1 yl c1, .slice p2 xl c2]), x143, x144, (.slice p2 xl c2), x19, x20, x21, (by simp only [Act.put, List.setIfInBounds_toArray, List.set_cons_zero, List.set_cons_succ]), hr, f0, f1, f2, f3, f4, f5, f6, (show _ → _ from fun _ => ⟨gc, rfl⟩), f8, f9, (show _ → _ from fun _ => ⟨gc, rfl⟩), f11, f12, f15⟩ (if_pos rfl) (fun j hj => if_neg hj)
      · obtain rfl := Option.some.inj ho
        clear hdep ho
        rw [if_pos (by rfl)]
        try simp only [Act.put, List.setIfInBounds_toArray, List.set_cons_zero, List.set_cons_succ]
        go_simp
        exact hK.out _ _ (fun j => if j = 11 then true else ℓ j) ⟨a1, a2, p1, c1, p2, c2, l1, u1, l2, u2, w'.heap.size, b9, x136, x137, x138, x139, x140, x141, x142, x135, x143, x144, x145, (.pointer (some ⟨w'.heap.size, 0, none⟩)), x20, x21, (by simp only [Act.put, List.setIfInBounds_toArray, List.set_cons_zero, List.set_cons_succ]), (hr.al8 hL _ _ _), f0, f1, f2, f3, f4, f5, f6, f7, f8, f9, f10, (show _ → _ from fun _ => rfl), f12, f15⟩ (if_pos rfl) (fun j hj => if_neg hj)
      · obtain rfl := Option.some.inj ho
        clear hdep ho
        rw [if_pos (by rfl)]
        try simp only [Act.put, List.setIfInBounds_toArray, List.set_cons_zero, List.set_cons_succ]
        go_simp
        exact hK.out _ _ (fun j => if j = 12 then true else ℓ j) ⟨a1, a2, p1, c1, p2, c2, l1, u1, l2, u2, b8, w'.heap.size, x136, x137, x138, x139, x140, x141, x142, x135, x143, x144, x145, x19, (.pointer (some ⟨w'.heap.size, 0, none⟩)), x21, (by simp only [Act.put, List.setIfInBounds_toArray, List.set_cons_zero, List.set_cons_succ]), (hr.al9 hL _ _), f0, f1, f2, f3, f4, f5, f6, f7, f8, f9, f10, f11, (show _ → _ from fun _ => rfl), f15⟩ (if_pos rfl) (fun j hj => if_neg hj)
      · obtain rfl := Option.some.inj ho
        have g11 : ℓ 11 = true := hdep { on := 11, ground := Ground.data } (by simp) rfl
        have g8 : ℓ 8 = true := hdep { on := 8, ground := Ground.data } (by simp) rfl
        have g6 : ℓ 6 = true := hdep { on := 6, ground := Ground.chain } (by simp) rfl
        clear hdep ho
        obtain rfl := f11.out g11
        obtain rfl := f8.out g8
        obtain rfl := f6.out g6
        have gc := g6
        rw [if_pos (by rfl)]
        try simp only [Act.put, List.setIfInBounds_toArray, List.set_cons_zero, List.set_cons_succ]
        rw [g6, g11] at hr
        obtain ⟨_, v0, v1, k8⟩ := hr.k8 rfl
        have q0 := k8.cell 0 _ rfl
        have q1 := k8.cell 1 _ rfl
        have qf := k8.free
        go_simp
        have hr2 := hr.st8
        exact hK.out _ _ (fun j => if j = 13 then true else ℓ j) ⟨a1, a2, p1, c1, p2, c2, l1, u1, l2, u2, b8, b9, x136, x137, x138, x139, x140, x141, (.tuple #[oen rh none 0 0, ien p1 yl c1, .slice p2 xl c2]), x135, (oen rh none 0 0), x144, x145, (.pointer (some ⟨b8, 0, none⟩)), x20, x21, (by simp only [Act.put, List.setIfInBounds_toArray, List.set_cons_zero, List.set_cons_succ]), (by show RI _ _ _ _ _ _ _ _ _ (ℓ 6) (ℓ 11) _ true _ _ _ _ _ _ _ _ _ _ _ _ _; rw [g6, g11]; exact hr2), f0, f1, f2, f3, f4, f5, (show _ → _ from fun _ => rfl), f7, (show _ → _ from fun _ => rfl), f9, f10, (show _ → _ from fun _ => rfl), f12, f15⟩ (if_pos rfl) (fun j hj => if_neg hj)
      · obtain rfl := Option.some.inj ho
        have g12 : ℓ 12 = true := hdep { on := 12, ground := Ground.data } (by simp) rfl
        have g9 : ℓ 9 = true := hdep { on := 9, ground := Ground.data } (by simp) rfl
        have g6 : ℓ 6 = true := hdep { on := 6, ground := Ground.phase } (by simp) rfl
        clear hdep ho
        obtain rfl := f12.out g12
        have gc := (f9.out g9).1; have hx9 := (f9.out g9).2; clear f9; subst hx9
        obtain rfl := f6.out g6
        have gc := g6
        rw [if_pos (by rfl)]
        try simp only [Act.put, List.setIfInBounds_toArray, List.set_cons_zero, List.set_cons_succ]
        rw [g6, g12] at hr
        obtain ⟨_, v0, k9⟩ := hr.k9 rfl
        have q0 := k9.cell 0 _ rfl
        have qf := k9.free
        go_simp
        have hr2 := hr.st9
        exact hK.out _ _ (fun j => if j = 14 then true else ℓ j) ⟨a1, a2, p1, c1, p2, c2, l1, u1, l2, u2, b8, b9, x136, x137, x138, x139, x140, x141, (.tuple #[oen rh none 0 0, ien p1 yl c1, .slice p2 xl c2]), x135, x143, (ien p1 yl c1), x145, x19, (.pointer (some ⟨b9, 0, none⟩)), x21, (by simp only [Act.put, List.setIfInBounds_toArray, List.set_cons_zero, List.set_cons_succ]), (by show RI _ _ _ _ _ _ _ _ _ (ℓ 6) _ (ℓ 12) _ true _ _ _ _ _ _ _ _ _ _ _ _; rw [g6, g12]; exact hr2), f0, f1, f2, f3, f4, f5, (show _ → _ from fun _ => rfl), f7, f8, (show _ → _ from fun _ => ⟨gc, rfl⟩), f10, f11, (show _ → _ from fun _ => rfl), f15⟩ (if_pos rfl) (fun j hj => if_neg hj)
      · obtain rfl := Option.some.inj ho
        have g10 : ℓ 10 = true := hdep { on := 10, ground := Ground.data } (by simp) rfl
        clear hdep ho
        have gc := (f10.out g10).1; have hx10 := (f10.out g10).2; clear f10; subst hx10
        rw [if_pos (by rfl)]
        try simp only [Act.put, List.setIfInBounds_toArray, List.set_cons_zero, List.set_cons_succ]
        go_simp
        exact hK.out _ _ (fun j => if j = 15 then true else ℓ j) ⟨a1, a2, p1, c1, p2, c2, l1, u1, l2, u2, b8, b9, x136, x137, x138, x139, x140, x141, x142, x135, x143, x144, (.slice p2 xl c2), x19, x20, (.slice p2 xl c2), (by simp only [Act.put, List.setIfInBounds_toArray, List.set_cons_zero, List.set_cons_succ]), hr, f0, f1, f2, f3, f4, f5, f6, f7, f8, f9, (show _ → _ from fun _ => ⟨gc, rfl⟩), f11, f12, (show _ → _ from fun _ => ⟨gc, rfl⟩)⟩ (if_pos rfl) (fun j hj => if_neg hj)
    · intro a' w' ℓ ℓ' hℓ hI
      rw [← show ℓ = ℓ' from funext hℓ]
      exact hI
  case rest =>
  obtain ⟨b19, b20, t1, f1, t2, f2, rfl, rfl, rfl, hbf⟩ := hcut
  obtain ⟨WH, hWA⟩ : ∃ W, W = wc := ⟨_, rfl⟩
  subst hWA
  obtain ⟨hbc, kAH, kBH, n8H, n9H, n89H, n1, k1, n2, k2, oAH, oBH, q1H, q2H, q3H, q4H, q5H, q6H, qdH, e8aH, e8bH, e9aH, e9bH⟩ := hbf
  have hzH := hbc.size
  have hlAH := kAH.lt
  have hlBH := kBH.lt
  replace HB : Hid (Below w.heap.size w _) := HB.out.trans (hbc.mono HB.out.size)
  replace HR : Hid (Bk _ _ _) := Bk.below HR.out hbc
  replace HE : Hid (Bk _ _ _) := Bk.below HE.out hbc
  replace HI : Hid (Bk _ _ _) := Bk.below HI.out hbc
  replace SV0 : Hid (Bk _ _ _) := Bk.below SV0.out hbc
  replace SV1 : Hid (Bk _ _ _) := Bk.below SV1.out hbc
  replace SA1 : Hid (OE _ _ _ _ _) := OE.below SA1.out hbc
  replace SA2 : Hid (OE _ _ _ _ _) := OE.below SA2.out hbc
  replace XV : Hid (Bk _ _ _) := Bk.below XV.out hbc
  replace YV : Hid (Bk _ _ _) := Bk.below YV.out hbc
  replace GV0 : Hid (Bk _ _ _) := Bk.below GV0.out hbc
  replace GV1 : Hid (Bk _ _ _) := Bk.below GV1.out hbc
  replace GM1 : Hid (OE _ _ _ _ _) := OE.below GM1.out hbc
  replace GM2 : Hid (OE _ _ _ _ _) := OE.below GM2.out hbc
  have HV0 : Hid (Bk WH b19 (orow rh none 0 0)) := kAH
  have HV1 : Hid (Bk WH b20 (irow t1 yl f1)) := kBH
  have HA1 : Hid (OE WH n1 k1 t1 ys) := oAH
  have HA2 : Hid (OE WH n2 k2 t2 xs) := oBH
  clear hbc kAH kBH oAH oBH
  have g0 := HV0.out.cell 0 _ rfl
  have g1 := HV0.out.cell 1 _ rfl
  have s0 := SV0.out.cell 0 _ rfl
  have s1 := SV0.out.cell 1 _ rfl
  go_wp2_with fail
  refine Calls.mono (eq_out rh none none 0 0 0 [] _ (OE.seg (OE.nil _ 0 0 _)) (OE.seg (OE.nil _ 0 0 _)) rfl (by omega)) ?_
  rintro u w30 ⟨rfl, hb30⟩
  clear g0 g1
  clear s0 s1
  replace HB : Hid (Below w.heap.size w _) := HB.out.trans (hb30.mono HB.out.size)
  replace HR : Hid (Bk _ _ _) := Bk.below HR.out hb30
  replace HE : Hid (Bk _ _ _) := Bk.below HE.out hb30
  replace HI : Hid (Bk _ _ _) := Bk.below HI.out hb30
  replace SV0 : Hid (Bk _ _ _) := Bk.below SV0.out hb30
  replace SV1 : Hid (Bk _ _ _) := Bk.below SV1.out hb30
  replace SA1 : Hid (OE _ _ _ _ _) := OE.below SA1.out hb30
  replace SA2 : Hid (OE _ _ _ _ _) := OE.below SA2.out hb30
  replace XV : Hid (Bk _ _ _) := Bk.below XV.out hb30
  replace YV : Hid (Bk _ _ _) := Bk.below YV.out hb30
  replace GV0 : Hid (Bk _ _ _) := Bk.below GV0.out hb30
  replace GV1 : Hid (Bk _ _ _) := Bk.below GV1.out hb30
  replace GM1 : Hid (OE _ _ _ _ _) := OE.below GM1.out hb30
  replace GM2 : Hid (OE _ _ _ _ _) := OE.below GM2.out hb30
  replace HV0 : Hid (Bk _ _ _) := Bk.below HV0.out hb30
  replace HV1 : Hid (Bk _ _ _) := Bk.below HV1.out hb30
  replace HA1 : Hid (OE _ _ _ _ _) := OE.below HA1.out hb30
  replace HA2 : Hid (OE _ _ _ _ _) := OE.below HA2.out hb30
  have hz30 := hb30.size
  clear hb30
  have g0 := HV1.out.cell 0 _ rfl
  have s0 := SV1.out.cell 0 _ rfl
  go_wp2_with fail
  refine Calls.mono (eq_in t1 p1 f1 c1 yl ys _ (OE.seg HA1.out) (OE.seg SA1.out) HYL.out hyl) ?_
  rintro u w31 ⟨rfl, hb31⟩
  clear g0
  clear s0
  replace HB : Hid (Below w.heap.size w _) := HB.out.trans (hb31.mono HB.out.size)
  replace HR : Hid (Bk _ _ _) := Bk.below HR.out hb31
  replace HE : Hid (Bk _ _ _) := Bk.below HE.out hb31
  replace HI : Hid (Bk _ _ _) := Bk.below HI.out hb31
  replace SV0 : Hid (Bk _ _ _) := Bk.below SV0.out hb31
  replace SV1 : Hid (Bk _ _ _) := Bk.below SV1.out hb31
  replace SA1 : Hid (OE _ _ _ _ _) := OE.below SA1.out hb31
  replace SA2 : Hid (OE _ _ _ _ _) := OE.below SA2.out hb31
  replace XV : Hid (Bk _ _ _) := Bk.below XV.out hb31
  replace YV : Hid (Bk _ _ _) := Bk.below YV.out hb31
  replace GV0 : Hid (Bk _ _ _) := Bk.below GV0.out hb31
  replace GV1 : Hid (Bk _ _ _) := Bk.below GV1.out hb31
  replace GM1 : Hid (OE _ _ _ _ _) := OE.below GM1.out hb31
  replace GM2 : Hid (OE _ _ _ _ _) := OE.below GM2.out hb31
  replace HV0 : Hid (Bk _ _ _) := Bk.below HV0.out hb31
  replace HV1 : Hid (Bk _ _ _) := Bk.below HV1.out hb31
  replace HA1 : Hid (OE _ _ _ _ _) := OE.below HA1.out hb31
  replace HA2 : Hid (OE _ _ _ _ _) := OE.below HA2.out hb31
  have hz31 := hb31.size
  clear hb31
  go_wp2_with fail
  refine Calls.mono (eq_regs t2 p2 f2 c2 xl xs _ (OE.seg HA2.out) (OE.seg SA2.out) HXL.out hxl) ?_
  rintro u w32 ⟨rfl, hb32⟩
  replace HB : Hid (Below w.heap.size w _) := HB.out.trans (hb32.mono HB.out.size)
  replace HR : Hid (Bk _ _ _) := Bk.below HR.out hb32
  replace HE : Hid (Bk _ _ _) := Bk.below HE.out hb32
  replace HI : Hid (Bk _ _ _) := Bk.below HI.out hb32
  replace SV0 : Hid (Bk _ _ _) := Bk.below SV0.out hb32
  replace SV1 : Hid (Bk _ _ _) := Bk.below SV1.out hb32
  replace SA1 : Hid (OE _ _ _ _ _) := OE.below SA1.out hb32
  replace SA2 : Hid (OE _ _ _ _ _) := OE.below SA2.out hb32
  replace XV : Hid (Bk _ _ _) := Bk.below XV.out hb32
  replace YV : Hid (Bk _ _ _) := Bk.below YV.out hb32
  replace GV0 : Hid (Bk _ _ _) := Bk.below GV0.out hb32
  replace GV1 : Hid (Bk _ _ _) := Bk.below GV1.out hb32
  replace GM1 : Hid (OE _ _ _ _ _) := OE.below GM1.out hb32
  replace GM2 : Hid (OE _ _ _ _ _) := OE.below GM2.out hb32
  replace HV0 : Hid (Bk _ _ _) := Bk.below HV0.out hb32
  replace HV1 : Hid (Bk _ _ _) := Bk.below HV1.out hb32
  replace HA1 : Hid (OE _ _ _ _ _) := OE.below HA1.out hb32
  replace HA2 : Hid (OE _ _ _ _ _) := OE.below HA2.out hb32
  have hz32 := hb32.size
  clear hb32
  have g0 := GV0.out.cell 0 _ rfl
  have g1 := GV0.out.cell 1 _ rfl
  go_wp2_with fail
  refine Calls.mono (held_out rh 0 0 1 none _ (OE.seg (OE.nil _ 0 0 _)) (by omega) (by omega)) ?_
  rintro u w33 ⟨rfl, hb33⟩
  clear g0 g1
  replace HB : Hid (Below w.heap.size w _) := HB.out.trans (hb33.mono HB.out.size)
  replace HR : Hid (Bk _ _ _) := Bk.below HR.out hb33
  replace HE : Hid (Bk _ _ _) := Bk.below HE.out hb33
  replace HI : Hid (Bk _ _ _) := Bk.below HI.out hb33
  replace SV0 : Hid (Bk _ _ _) := Bk.below SV0.out hb33
  replace SV1 : Hid (Bk _ _ _) := Bk.below SV1.out hb33
  replace SA1 : Hid (OE _ _ _ _ _) := OE.below SA1.out hb33
  replace SA2 : Hid (OE _ _ _ _ _) := OE.below SA2.out hb33
  replace XV : Hid (Bk _ _ _) := Bk.below XV.out hb33
  replace YV : Hid (Bk _ _ _) := Bk.below YV.out hb33
  replace GV0 : Hid (Bk _ _ _) := Bk.below GV0.out hb33
  replace GV1 : Hid (Bk _ _ _) := Bk.below GV1.out hb33
  replace GM1 : Hid (OE _ _ _ _ _) := OE.below GM1.out hb33
  replace GM2 : Hid (OE _ _ _ _ _) := OE.below GM2.out hb33
  replace HV0 : Hid (Bk _ _ _) := Bk.below HV0.out hb33
  replace HV1 : Hid (Bk _ _ _) := Bk.below HV1.out hb33
  replace HA1 : Hid (OE _ _ _ _ _) := OE.below HA1.out hb33
  replace HA2 : Hid (OE _ _ _ _ _) := OE.below HA2.out hb33
  have hz33 := hb33.size
  clear hb33
  rw [HJ1.out]
  have g0 := GV1.out.cell 0 _ rfl
  go_wp2_with fail
  refine Calls.mono (held_in d1 yl J1 r1 _ (OE.seg GM1.out) hyl (by omega)) ?_
  rintro u w34 ⟨rfl, hb34⟩
  clear g0
  replace HB : Hid (Below w.heap.size w _) := HB.out.trans (hb34.mono HB.out.size)
  replace HR : Hid (Bk _ _ _) := Bk.below HR.out hb34
  replace HE : Hid (Bk _ _ _) := Bk.below HE.out hb34
  replace HI : Hid (Bk _ _ _) := Bk.below HI.out hb34
  replace SV0 : Hid (Bk _ _ _) := Bk.below SV0.out hb34
  replace SV1 : Hid (Bk _ _ _) := Bk.below SV1.out hb34
  replace SA1 : Hid (OE _ _ _ _ _) := OE.below SA1.out hb34
  replace SA2 : Hid (OE _ _ _ _ _) := OE.below SA2.out hb34
  replace XV : Hid (Bk _ _ _) := Bk.below XV.out hb34
  replace YV : Hid (Bk _ _ _) := Bk.below YV.out hb34
  replace GV0 : Hid (Bk _ _ _) := Bk.below GV0.out hb34
  replace GV1 : Hid (Bk _ _ _) := Bk.below GV1.out hb34
  replace GM1 : Hid (OE _ _ _ _ _) := OE.below GM1.out hb34
  replace GM2 : Hid (OE _ _ _ _ _) := OE.below GM2.out hb34
  replace HV0 : Hid (Bk _ _ _) := Bk.below HV0.out hb34
  replace HV1 : Hid (Bk _ _ _) := Bk.below HV1.out hb34
  replace HA1 : Hid (OE _ _ _ _ _) := OE.below HA1.out hb34
  replace HA2 : Hid (OE _ _ _ _ _) := OE.below HA2.out hb34
  have hz34 := hb34.size
  clear hb34
  rw [HJ2.out]
  go_wp2_with fail
  refine Calls.mono (held_regs r2 d2 xl J2 _ (OE.seg GM2.out) hxl (by omega)) ?_
  rintro u w35 ⟨rfl, hb35⟩
  replace HB : Hid (Below w.heap.size w _) := HB.out.trans (hb35.mono HB.out.size)
  replace HR : Hid (Bk _ _ _) := Bk.below HR.out hb35
  replace HE : Hid (Bk _ _ _) := Bk.below HE.out hb35
  replace HI : Hid (Bk _ _ _) := Bk.below HI.out hb35
  replace SV0 : Hid (Bk _ _ _) := Bk.below SV0.out hb35
  replace SV1 : Hid (Bk _ _ _) := Bk.below SV1.out hb35
  replace SA1 : Hid (OE _ _ _ _ _) := OE.below SA1.out hb35
  replace SA2 : Hid (OE _ _ _ _ _) := OE.below SA2.out hb35
  replace XV : Hid (Bk _ _ _) := Bk.below XV.out hb35
  replace YV : Hid (Bk _ _ _) := Bk.below YV.out hb35
  replace GV0 : Hid (Bk _ _ _) := Bk.below GV0.out hb35
  replace GV1 : Hid (Bk _ _ _) := Bk.below GV1.out hb35
  replace GM1 : Hid (OE _ _ _ _ _) := OE.below GM1.out hb35
  replace GM2 : Hid (OE _ _ _ _ _) := OE.below GM2.out hb35
  replace HV0 : Hid (Bk _ _ _) := Bk.below HV0.out hb35
  replace HV1 : Hid (Bk _ _ _) := Bk.below HV1.out hb35
  replace HA1 : Hid (OE _ _ _ _ _) := OE.below HA1.out hb35
  replace HA2 : Hid (OE _ _ _ _ _) := OE.below HA2.out hb35
  have hz35 := hb35.size
  clear hb35
  rw [HJ3.out]
  go_wp2
  go_ret
  exact ⟨rfl, HB.out⟩
end Go.Proofs.Ytoofjlfbedjbnaa
