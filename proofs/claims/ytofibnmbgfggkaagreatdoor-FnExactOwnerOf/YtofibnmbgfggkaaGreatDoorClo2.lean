
/-
  The rules on partitions, by the program. Conditions: what a rule is asked under.
-/
import Derived.Test.YtofibnmbgfggkaaGreatDoorBas
import Derived.Test.YtofibnmbgfggkaaGreatDoorRul
import Derived.BigQuiet
import Derived.Deep.RegionHeldLaw
import Derived.Test.YtofibnmbgfggkaaGreatDoorPev
import Derived.Shelf.Abstract
namespace Go.Proofs.YtofibnmbgfggkaaGreatDoor
open Go.ChangeShapes Go.WideShapes Go.ChangeAt Go.RowKit Go.Deep Go.Joins
set_option linter.unusedVariables false

set_option maxRecDepth 40000 in
set_option maxHeartbeats 4000000 in
theorem cl8 (t : Tb) (a : Ad) (B : Nat) (q : Bool) (X : World) (hu : Und X B t a) (hp : ∀ j, j < 8 → R t j) (hq : q = true ↔ R t 8) :
    Calls Tryz.prog 104 #[.pointer (some ⟨B, 0, none⟩)] X fun e w' => e = .returned (.bool q) ∧ Below X.heap.size X w' := by
  have HL : t.ps.length = a.pn := hu.w.pl
  have hpb := hu.w.pb
  have HQ : Hid (inr (a.pn : Int) 1 6 = q) := bool_is hq (by simp only [R]; rw [HL, inr_iff]; omega)
  have c0 : X.cell? ⟨B, 15, none⟩ = some (.slice a.pa a.pn a.pc) := hu.x.cell 15 rfl
  clear hu hp hq HL
  generalize a.pn = n at c0 HQ hpb
  go_enter Tryz.func104, Tryz.ntmps104
  go_wp2_with fail
  refine (is_cnt (n : Int) 6 _).mono ?_
  rintro e w1 ⟨rfl, rfl⟩
  rw [HQ.out]
  go_wp2
  go_ret
  exact ⟨rfl, Below.refl _ _⟩
theorem t_name (y : Rw) (q : Bool) (w : World) (hn : y.nm.size ≤ 1048576) (hq : Hid (Lab.nok (Tx.nums y.nm) = q)) : Calls Tryz.prog 108 #[rwV y] w fun e w' => e = .returned (.bool q) ∧ Below w.heap.size w w' := by
  obtain ⟨nm, en, kd, ms, wa, wn, wc⟩ := y
  simp only [rwV] at *
  have HB0 : Hid (Below w.heap.size w (w.alloc (.cells #[.string nm, .int .i64 en, .int .i64 kd, .int .i64 ms, .slice wa wn wc] 73))) := (Below.refl _ _).alloc (Nat.le_refl _) _
  go_enter Tryz.func108, Tryz.ntmps108
  go_wp2_with fail
  refine (impl_name nm q _ hn hq).mono ?_
  rintro e w1 ⟨rfl, hb⟩
  have HB : Hid (Below w.heap.size w w1) := HB0.out.trans (hb.mono HB0.out.size)
  clear hb
  go_wp2
  go_ret
  exact ⟨rfl, HB.out⟩
theorem t_pol (y : Rw) (q : Bool) (w : World) (hq : Hid (polOk y.kd y.ms = q)) : Calls Tryz.prog 114 #[rwV y] w fun e w' => e = .returned (.bool q) ∧ Below w.heap.size w w' := by
  obtain ⟨nm, en, kd, ms, wa, wn, wc⟩ := y
  simp only [rwV] at *
  have HB0 : Hid (Below w.heap.size w (w.alloc (.cells #[.string nm, .int .i64 en, .int .i64 kd, .int .i64 ms, .slice wa wn wc] 73))) := (Below.refl _ _).alloc (Nat.le_refl _) _
  go_enter Tryz.func114, Tryz.ntmps114
  go_wp2_with fail
  refine (impl_pok kd ms _).mono ?_
  rintro e w1 ⟨rfl, hb⟩
  rw [hq.out]
  have HB : Hid (Below w.heap.size w w1) := HB0.out.trans (hb.mono HB0.out.size)
  clear hb
  go_wp2
  go_ret
  exact ⟨rfl, HB.out⟩
theorem t_cnt (y : Rw) (q : Bool) (w : World) (hb : y.wn ≤ 9223372036854775807) (hq : Hid (inr (y.wn : Int) 1 4 = q)) : Calls Tryz.prog 117 #[rwV y] w fun e w' => e = .returned (.bool q) ∧ Below w.heap.size w w' := by
  obtain ⟨nm, en, kd, ms, wa, wn, wc⟩ := y
  simp only [rwV] at *
  have HB0 : Hid (Below w.heap.size w (w.alloc (.cells #[.string nm, .int .i64 en, .int .i64 kd, .int .i64 ms, .slice wa wn wc] 73))) := (Below.refl _ _).alloc (Nat.le_refl _) _
  go_enter Tryz.func117, Tryz.ntmps117
  go_wp2_with fail
  refine (is_cnt (wn : Int) 4 _).mono ?_
  rintro e w1 ⟨rfl, rfl⟩
  rw [hq.out]
  go_wp2
  go_ret
  exact ⟨rfl, HB0.out⟩
set_option maxRecDepth 20000 in
theorem e_name : ∀ args (v : World), (callFunc 108 args).run Tryz.prog v = .ok (.enter 108 args) v := enters_of Tryz.func108 (by kernel_rfl) rfl
set_option maxRecDepth 20000 in
theorem e_pol : ∀ args (v : World), (callFunc 114 args).run Tryz.prog v = .ok (.enter 114 args) v := enters_of Tryz.func114 (by kernel_rfl) rfl
set_option maxRecDepth 20000 in
theorem e_cnt : ∀ args (v : World), (callFunc 117 args).run Tryz.prog v = .ok (.enter 117 args) v := enters_of Tryz.func117 (by kernel_rfl) rfl
set_option maxRecDepth 40000 in
set_option maxHeartbeats 4000000 in
theorem cl9 (t : Tb) (a : Ad) (B : Nat) (q : Bool) (X : World) (hu : Und X B t a) (hp : ∀ j, j < 9 → R t j) (hq : q = true ↔ R t 9) :
    Calls Tryz.prog 106 #[.pointer (some ⟨B, 0, none⟩)] X fun e w' => e = .returned (.bool q) ∧ Below X.heap.size X w' := by
  have HL : t.ps.length = a.pn := hu.w.pl
  have HG := hu.m.p.2
  have HQ : Hid (q = true ↔ ∀ i, i < a.pn → (Lab.nok (Tx.nums (a.Y i).nm)) = true) := by
    refine hq.trans ?_
    simp only [R]
    rw [HL]
    exact ⟨fun h i hi => by rw [(HG i hi).nm]; exact h i hi, fun h i hi => by rw [← (HG i hi).nm]; exact h i hi⟩
  have c0 : X.cell? ⟨B, 15, none⟩ = some (.slice a.pa a.pn a.pc) := hu.x.cell 15 rfl
  have HE : Hid (Calls Tryz.prog 107 #[.slice a.pa a.pn a.pc, .func (.func 108) #[] #[]] X fun e w' => e = .returned (.bool q) ∧ Below X.heap.size X w') :=
    part_every a.pa a.pc a.pn a.Y (fun i => Lab.nok (Tx.nums (a.Y i).nm)) q 108 #[] X hu.m.p.1.seg hu.w.pb e_name (fun i hi Y hY => t_name (a.Y i) _ Y (hu.s.w i hi).2 rfl) HQ.out
  clear hu hp hq HL HG HQ
  go_enter Tryz.func106, Tryz.ntmps106
  go_wp2_with fail
  refine Calls.mono HE.out ?_
  rintro e w1 ⟨rfl, hb⟩
  have HB : Hid (Below X.heap.size X w1) := hb
  clear hb c0 HE
  go_wp2
  go_ret
  exact ⟨rfl, HB.out⟩
set_option maxRecDepth 40000 in
set_option maxHeartbeats 4000000 in
theorem cl11 (t : Tb) (a : Ad) (B : Nat) (q : Bool) (X : World) (hu : Und X B t a) (hp : ∀ j, j < 11 → R t j) (hq : q = true ↔ R t 11) :
    Calls Tryz.prog 113 #[.pointer (some ⟨B, 0, none⟩)] X fun e w' => e = .returned (.bool q) ∧ Below X.heap.size X w' := by
  have HL : t.ps.length = a.pn := hu.w.pl
  have HG := hu.m.p.2
  have HQ : Hid (q = true ↔ ∀ i, i < a.pn → (polOk (a.Y i).kd (a.Y i).ms) = true) := by
    refine hq.trans ?_
    simp only [R]
    rw [HL]
    exact ⟨fun h i hi => by rw [(HG i hi).kd, (HG i hi).ms]; exact h i hi, fun h i hi => by rw [← (HG i hi).kd, ← (HG i hi).ms]; exact h i hi⟩
  have c0 : X.cell? ⟨B, 15, none⟩ = some (.slice a.pa a.pn a.pc) := hu.x.cell 15 rfl
  have HE : Hid (Calls Tryz.prog 107 #[.slice a.pa a.pn a.pc, .func (.func 114) #[] #[]] X fun e w' => e = .returned (.bool q) ∧ Below X.heap.size X w') :=
    part_every a.pa a.pc a.pn a.Y (fun i => polOk (a.Y i).kd (a.Y i).ms) q 114 #[] X hu.m.p.1.seg hu.w.pb e_pol (fun i hi Y hY => t_pol (a.Y i) _ Y rfl) HQ.out
  clear hu hp hq HL HG HQ
  go_enter Tryz.func113, Tryz.ntmps113
  go_wp2_with fail
  refine Calls.mono HE.out ?_
  rintro e w1 ⟨rfl, hb⟩
  have HB : Hid (Below X.heap.size X w1) := hb
  clear hb c0 HE
  go_wp2
  go_ret
  exact ⟨rfl, HB.out⟩
set_option maxRecDepth 40000 in
set_option maxHeartbeats 4000000 in
theorem cl12 (t : Tb) (a : Ad) (B : Nat) (q : Bool) (X : World) (hu : Und X B t a) (hp : ∀ j, j < 12 → R t j) (hq : q = true ↔ R t 12) :
    Calls Tryz.prog 116 #[.pointer (some ⟨B, 0, none⟩)] X fun e w' => e = .returned (.bool q) ∧ Below X.heap.size X w' := by
  have HL : t.ps.length = a.pn := hu.w.pl
  have HG := hu.m.p.2
  have HQ : Hid (q = true ↔ ∀ i, i < a.pn → (inr ((a.Y i).wn : Int) 1 4) = true) := by
    refine hq.trans ?_
    simp only [R]
    rw [HL]
    exact ⟨fun h i hi => by have g := h i hi; rw [(HG i hi).ln] at g; rw [inr_iff]; omega, fun h i hi => by have g := h i hi; rw [inr_iff] at g; rw [(HG i hi).ln]; omega⟩
  have c0 : X.cell? ⟨B, 15, none⟩ = some (.slice a.pa a.pn a.pc) := hu.x.cell 15 rfl
  have HE : Hid (Calls Tryz.prog 107 #[.slice a.pa a.pn a.pc, .func (.func 117) #[] #[]] X fun e w' => e = .returned (.bool q) ∧ Below X.heap.size X w') :=
    part_every a.pa a.pc a.pn a.Y (fun i => inr ((a.Y i).wn : Int) 1 4) q 117 #[] X hu.m.p.1.seg hu.w.pb e_cnt (fun i hi Y hY => t_cnt (a.Y i) _ Y (hu.w.wb i hi).1 rfl) HQ.out
  clear hu hp hq HL HG HQ
  go_enter Tryz.func116, Tryz.ntmps116
  go_wp2_with fail
  refine Calls.mono HE.out ?_
  rintro e w1 ⟨rfl, hb⟩
  have HB : Hid (Below X.heap.size X w1) := hb
  clear hb c0 HE
  go_wp2
  go_ret
  exact ⟨rfl, HB.out⟩
set_option maxRecDepth 40000 in
set_option maxHeartbeats 4000000 in
theorem part_two (a : Option Addr) (cap n : Nat) (Y : Nat → Rw) (P : Nat → Nat → Bool) (q : Bool) (fid : Nat) (caps : Array Value) (w : World) (hs : GSeg 5 w a n (fun i => rwL (Y i))) (hn : n ≤ 9223372036854775807) (hc : n ≤ cap) (hen : ∀ args (v : World), (callFunc fid args).run Tryz.prog v = .ok (.enter fid args) v)
    (hf : ∀ i, i < n → ∀ j, j < i → ∀ X, Below w.heap.size w X → Calls Tryz.prog fid (#[rwV (Y j), rwV (Y i)] ++ caps) X fun e w' => e = .returned (.bool (P j i)) ∧ Below X.heap.size X w')
    (hq : q = true ↔ ∀ i, i < n → ∀ j, j < i → P j i = true) :
    Calls Tryz.prog 111 #[.slice a n cap, .func (.func fid) #[] caps] w fun e w' => e = .returned (.bool q) ∧ Below w.heap.size w w' := by
  have HQ : Hid (q = true ↔ ∀ i, i < n → ∀ j, j < i → P j i = true) := hq
  have HS : Hid (GSeg 5 w a n (fun i => rwL (Y i))) := hs
  have HF : Hid (∀ i, i < n → ∀ j, j < i → ∀ X, Below w.heap.size w X → Calls Tryz.prog fid (#[rwV (Y j), rwV (Y i)] ++ caps) X fun e w' => e = .returned (.bool (P j i)) ∧ Below X.heap.size X w') := hf
  clear hq hs hf
  go_enter Tryz.func111, Tryz.ntmps111
  go_wp2
  go_loopw [11] (fun i wr => ∃ m : Nat, m ≤ n ∧ i = .int .i64 m ∧ Hid (Below w.heap.size w wr ∧ ∀ i, i < m → ∀ j, j < i → P j i = true)) (fun i _ => n - (intOf i).toNat)
  case atStart => exact ⟨0, by omega, rfl, Below.refl _ _, fun i hi => absurd hi (by omega)⟩
  case round =>
    obtain ⟨m, hm, rfl, HR⟩ := hrel
    by_cases hmn : m < n
    rotate_left
    · obtain rfl : m = n := by omega
      have HT : Hid (q = true) := HQ.out.2 HR.out.2
      go_wp2
      go_ret
      exact ⟨ret_bool HT.out.symm, HR.out.1⟩
    have hmn' : (m : Int) < (n : Int) := by omega
    have hmc' : (m : Int) ≤ (cap : Int) := by omega
    obtain ⟨b1, o1, rfl, hbl1, p0⟩ := HS.out.at m hmn
    have HP : Hid (∀ X, Below w.heap.size w X → ∀ i, i < n → CellsAt X b1 (o1 + i * 5) (rwL (Y i))) := fun X hX i hi => by
      obtain ⟨b2, o2, e, hbl2, p2⟩ := HS.out.at i hi
      cases e
      exact p2.of (fun j => hX.cell (p := ⟨b1, j, none⟩) hbl1)
    obtain ⟨c0, c1, c2, c3, c4⟩ := rw_cells (HP.out _ HR.out.1 m hmn)
    have HFm : Hid _ := HF.out m hmn
    have HPf : Hid (∀ j, j < m → P j m = false → q = false) := fun j hj h => not_true HQ.out (fun g => by rw [g m hmn j hj] at h; cases h)
    have HPt : Hid ((∀ j, j < m → P j m = true) → ∀ i, i < m + 1 → ∀ j, j < i → P j i = true) := fun h i hi j hj => by
      by_cases e : i = m
      · subst e; exact h j hj
      · exact HR.out.2 i (by omega) j hj
    generalize Y m = y at c0 c1 c2 c3 c4 HFm
    generalize hpm : (fun j => P j m) = pm at *
    replace HFm : Hid (∀ j, j < m → ∀ X, Below w.heap.size w X → Calls Tryz.prog fid (#[rwV (Y j), rwV y] ++ caps) X fun e w' => e = .returned (.bool (pm j)) ∧ Below X.heap.size X w') := fun j hj X hX => by rw [← hpm]; exact HFm.out j hj X hX
    replace HPf : Hid (∀ j, j < m → pm j = false → q = false) := fun j hj h => HPf.out j hj (by rw [← hpm] at h; exact h)
    replace HPt : Hid ((∀ j, j < m → pm j = true) → ∀ i, i < m + 1 → ∀ j, j < i → P j i = true) := fun h => HPt.out (fun j hj => by have := h j hj; rw [← hpm] at this; exact this)
    clear hpm
    obtain ⟨nm, en, kd, ms, wa, wn, wc⟩ := y
    simp only at c0 c1 c2 c3 c4
    have HK0 : Hid (Below w.heap.size w (wr.alloc (.cells #[.string nm, .int .i64 en, .int .i64 kd, .int .i64 ms, .slice wa wn wc] 73)) ∧ CellsAt (wr.alloc (.cells #[.string nm, .int .i64 en, .int .i64 kd, .int .i64 ms, .slice wa wn wc] 73)) wr.heap.size 0 [.string nm, .int .i64 en, .int .i64 kd, .int .i64 ms, .slice wa wn wc]) := ⟨HR.out.1.alloc HR.out.1.size _, CellsAt.new wr [.string nm, .int .i64 en, .int .i64 kd, .int .i64 ms, .slice wa wn wc] 73 _ rfl⟩
    clear p0 hbl1
    go_wp2
    clear c0 c1 c2 c3 c4 HR
    revert HK0
    generalize (wr.alloc (.cells #[.string nm, .int .i64 en, .int .i64 kd, .int .i64 ms, .slice wa wn wc] 73)) = V0
    generalize wr.heap.size = B1
    intro HK0
    go_loopw [20] (fun i wq => ∃ k : Nat, k ≤ m ∧ i = .int .i64 k ∧ Hid (Below w.heap.size w wq ∧ CellsAt wq B1 0 [.string nm, .int .i64 en, .int .i64 kd, .int .i64 ms, .slice wa wn wc] ∧ ∀ j, j < k → pm j = true)) (fun i _ => m - (intOf i).toNat)
    case atStart => exact ⟨0, by omega, rfl, HK0.out.1, HK0.out.2, fun i hi => absurd hi (by omega)⟩
    case round =>
      rename World => wq
      obtain ⟨k, hk, rfl, HR2⟩ := hrel
      by_cases hkm : k < m
      rotate_left
      · obtain rfl : k = m := by omega
        have HR3 : Hid _ := HPt.out HR2.out.2.2
        go_wp2
        go_roundw
        case rel => exact ⟨k + 1, by omega, by go_num, HR2.out.1, HR3.out⟩
        case measure => simp [intOf]; omega
      have hkm' : (k : Int) < (m : Int) := by omega
      obtain ⟨d0, d1, d2, d3, d4⟩ := rw_cells (HP.out _ HR2.out.1 k (by omega))
      have HFk : Hid _ := HFm.out k hkm
      have HPk : Hid (pm k = false → q = false) := HPf.out k hkm
      have HPs : Hid (pm k = true → ∀ j, j < k + 1 → pm j = true) := fun h j hj => by
        by_cases e : j = k
        · subst e; exact h
        · exact HR2.out.2.2 j (by omega)
      generalize Y k = z at d0 d1 d2 d3 d4 HFk
      generalize pm k = pk at HFk HPk HPs
      obtain ⟨nm', en', kd', ms', va, vn, vc⟩ := z
      simp only [rwV] at d0 d1 d2 d3 d4 HFk
      have hal : Below wq.heap.size wq (wq.alloc (.cells #[.string nm', .int .i64 en', .int .i64 kd', .int .i64 ms', .slice va vn vc] 73)) := (Below.refl _ _).alloc (Nat.le_refl _) _
      have hK2 := HR2.out.2.1.below hal
      have e0 := cell0 hK2 0 rfl
      have e1 := cell0 hK2 1 rfl
      have e2 := cell0 hK2 2 rfl
      have e3 := cell0 hK2 3 rfl
      have e4 := cell0 hK2 4 rfl
      have HAL : Hid (Below w.heap.size w (wq.alloc (.cells #[.string nm', .int .i64 en', .int .i64 kd', .int .i64 ms', .slice va vn vc] 73)) ∧ CellsAt (wq.alloc (.cells #[.string nm', .int .i64 en', .int .i64 kd', .int .i64 ms', .slice va vn vc] 73)) B1 0 [.string nm, .int .i64 en, .int .i64 kd, .int .i64 ms, .slice wa wn wc]) := ⟨HR2.out.1.trans (hal.mono HR2.out.1.size), hK2⟩
      clear hal hK2
      go_wp2_with fail
      refine (HFk.out _ HAL.out.1).mono ?_
      rintro u W1 ⟨rfl, hb2⟩
      have HB2 : Hid (Below w.heap.size w W1 ∧ CellsAt W1 B1 0 [.string nm, .int .i64 en, .int .i64 kd, .int .i64 ms, .slice wa wn wc]) := ⟨HAL.out.1.trans (hb2.mono HAL.out.1.size), HAL.out.2.below hb2⟩
      clear hb2 d0 d1 d2 d3 d4 e0 e1 e2 e3 e4 HAL
      cases pk
      · have HT : Hid (q = false) := HPk.out (by trivial)
        go_wp2
        go_ret
        exact ⟨ret_bool HT.out.symm, HB2.out.1⟩
      · have HT : Hid _ := HPs.out (by trivial)
        go_wp2
        go_roundw
        case rel => exact ⟨k + 1, by omega, by go_num, HB2.out.1, HB2.out.2, HT.out⟩
        case measure => simp [intOf]; omega
def strNe (x y : ByteArray) : Bool := !x.toList == y.toList
theorem strNe_iff {x y : ByteArray} : strNe x y = true ↔ x ≠ y := by
  unfold strNe
  rw [ByteArray.toList_eq, ByteArray.toList_eq]
  constructor
  · intro h e
    subst e
    simp at h
  · intro h
    have : ¬ x.data.toList = y.data.toList := fun e => h (ByteArray.ext (by simpa using congrArg List.toArray e))
    simpa using this
theorem t_two (y z : Rw) (q : Bool) (w : World) (hq : Hid (strNe y.nm z.nm = q)) : Calls Tryz.prog 112 #[rwV y, rwV z] w fun e w' => e = .returned (.bool q) ∧ Below w.heap.size w w' := by
  obtain ⟨nm, en, kd, ms, wa, wn, wc⟩ := y
  obtain ⟨nm', en', kd', ms', va, vn, vc⟩ := z
  simp only [rwV] at *
  have HB0 : Hid (Below w.heap.size w ((w.alloc (.cells #[.string nm, .int .i64 en, .int .i64 kd, .int .i64 ms, .slice wa wn wc] 73)).alloc (.cells #[.string nm', .int .i64 en', .int .i64 kd', .int .i64 ms', .slice va vn vc] 73))) := ((Below.refl _ _).alloc (Nat.le_refl _) _).alloc (by simp) _
  go_enter Tryz.func112, Tryz.ntmps112
  go_wp2
  go_ret
  exact ⟨ret_bool hq.out, HB0.out⟩
set_option maxRecDepth 20000 in
theorem e_two : ∀ args (v : World), (callFunc 112 args).run Tryz.prog v = .ok (.enter 112 args) v := enters_of Tryz.func112 (by kernel_rfl) rfl
set_option maxRecDepth 40000 in
set_option maxHeartbeats 4000000 in
theorem cl10 (t : Tb) (a : Ad) (B : Nat) (q : Bool) (X : World) (hu : Und X B t a) (hp : ∀ j, j < 10 → R t j) (hcp : a.pn ≤ a.pc) (hq : q = true ↔ R t 10) :
    Calls Tryz.prog 110 #[.pointer (some ⟨B, 0, none⟩)] X fun e w' => e = .returned (.bool q) ∧ Below X.heap.size X w' := by
  have HL : t.ps.length = a.pn := hu.w.pl
  have HG := hu.m.p.2
  have HQ : Hid (q = true ↔ ∀ i, i < a.pn → ∀ j, j < i → strNe (a.Y j).nm (a.Y i).nm = true) := by
    refine hq.trans ?_
    simp only [R]
    rw [HL]
    exact ⟨fun h i hi j hj => by have := h i hi j hj; rw [(HG i hi).nm, (HG j (by omega)).nm]; exact strNe_iff.2 this, fun h i hi j hj => by have := h i hi j hj; rw [(HG i hi).nm, (HG j (by omega)).nm] at this; exact strNe_iff.1 this⟩
  have c0 : X.cell? ⟨B, 15, none⟩ = some (.slice a.pa a.pn a.pc) := hu.x.cell 15 rfl
  have HE : Hid (Calls Tryz.prog 111 #[.slice a.pa a.pn a.pc, .func (.func 112) #[] #[]] X fun e w' => e = .returned (.bool q) ∧ Below X.heap.size X w') :=
    part_two a.pa a.pc a.pn a.Y (fun j i => strNe (a.Y j).nm (a.Y i).nm) q 112 #[] X hu.m.p.1.seg hu.w.pb hcp e_two (fun i hi j hj Y hY => t_two (a.Y j) (a.Y i) _ Y rfl) HQ.out
  clear hu hp hq HL HG HQ
  go_enter Tryz.func110, Tryz.ntmps110
  go_wp2_with fail
  refine Calls.mono HE.out ?_
  rintro e w1 ⟨rfl, hb⟩
  have HB : Hid (Below X.heap.size X w1) := hb
  clear hb c0 HE
  go_wp2
  go_ret
  exact ⟨rfl, HB.out⟩
end Go.Proofs.YtofibnmbgfggkaaGreatDoor
