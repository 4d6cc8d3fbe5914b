
/-
  What the draws of the specification return: numbers in their bounds, and a cursor that stays one. Conditions: the bytes drawn from are at most 1048576.
-/
import Derived.Test.YtlomcdgfcocmmaaGreatDoorBas
import Derived.Test.YtlomcdgfcocmmaaGreatDoorProg
import Derived.Test.YtlomcdgfcocmmaaGreatDoorDraws
import Derived.Deep.QuietTactic
import Derived.BigQuiet
namespace Go.Proofs.YtlomcdgfcocmmaaGreatDoor
open Go.ChangeShapes Go.WideShapes Go.ChangeAt Go.RowKit Go.Deep
set_option linter.unusedVariables false

set_option maxHeartbeats 800000 in
theorem draw_byte (w : World) (B : Nat) (a : Option Addr) (zs : List Int) (cap : Nat) (hc : Cur w B a zs cap) :
    Calls Tryz.prog 60 #[.pointer (some ⟨B, 0, none⟩)] w fun e w' => ∃ x : Int, e = .returned (.int .i64 x) ∧ 0 ≤ x ∧ x ≤ 255 ∧ Cur w' B a zs cap ∧ Turn B w w' := by
  have hand := Wd.and255
  obtain ⟨i, hi, e1⟩ := hc.c1
  obtain ⟨h, e2⟩ := hc.c2
  have e0 := hc.c0
  have f1 := hc.free 1
  have f2 := hc.free 2
  have hsm := hc.small
  by_cases hlt : i < zs.length
  · obtain ⟨b, off, he, hbl, hcl⟩ := hc.seg.at i hlt
    have hne : b ≠ B := hc.far b off he (by omega)
    have hz := bounds_u8 (hc.byte _ (getD_mem zs i hlt))
    have HS : Hid (∀ v, Cur ((w.setCell ⟨B, 2, none⟩ (.int .i64 v)).setCell ⟨B, 1, none⟩ (.int .i64 ((i + 1 : Nat) : Int))) B a zs cap) := fun v => (hc.set2 v).set1 (i + 1) (by omega)
    subst he
    obtain ⟨hz0, hz1⟩ := hz
    generalize zs.getD i 0 = z at hcl hz0 hz1
    generalize zs.length = n at hlt e0 hi hsm
    clear hc
    go_enter Tryz.func60, Tryz.ntmps60
    go_wp2
    go_quiet (fail)
    go_wp2
    go_quiet (fail)
    go_wp2
    go_quiet (fail)
    go_wp2
    go_ret
    refine ⟨_, rfl, ?_, ?_, Cur.drewN (HS.out _) _, Turn.drewN (((Turn.refl _ _).setCell 2 _).setCell 1 _) _⟩
    · exact Int.emod_nonneg _ (by decide)
    · exact Int.le_of_lt_add_one (Int.emod_lt_of_pos _ (by decide))
  · have hlt2 : ¬ (i : Int) < (zs.length : Int) := by omega
    have HS : Hid (∀ v, Cur (w.setCell ⟨B, 2, none⟩ (.int .i64 v)) B a zs cap) := fun v => hc.set2 v
    generalize zs.length = n at hlt hlt2 e0 hi hsm
    clear hc
    go_enter Tryz.func60, Tryz.ntmps60
    go_wp2
    go_quiet (fail)
    go_wp2
    go_quiet (fail)
    go_wp2
    go_ret
    refine ⟨_, rfl, ?_, ?_, Cur.drewN (Cur.drewN (HS.out _) _) _, Turn.drewN (Turn.drewN ((Turn.refl _ _).setCell 2 _) _) _⟩
    · exact Int.emod_nonneg _ (by decide)
    · exact Int.le_of_lt_add_one (Int.emod_lt_of_pos _ (by decide))

set_option maxHeartbeats 800000 in
theorem draw_below (w : World) (B : Nat) (a : Option Addr) (zs : List Int) (cap : Nat) (n : Int) (hc : Cur w B a zs cap) (h1 : 1 ≤ n) (h2 : n ≤ 4294967296) :
    Calls Tryz.prog 30 #[.pointer (some ⟨B, 0, none⟩), .int .i64 n] w fun e w' => ∃ x : Int, e = .returned (.int .i64 x) ∧ 0 ≤ x ∧ x < n ∧ Cur w' B a zs cap ∧ Turn B w w' := by
  by_cases h256 : n ≤ 256
  · have hb0 : (n == 0) = false := beq_eq_false_iff_ne.2 (by omega)
    go_enter Tryz.func30, Tryz.ntmps30
    go_wp2_with fail
    refine (draw_byte _ _ _ _ _ hc).mono ?_
    rintro e w1 ⟨x, rfl, hx0, hx1, hc1, ht1⟩
    go_wp2
    go_ret
    exact ⟨_, rfl, Int.emod_nonneg _ (by omega), Int.emod_lt_of_pos _ (by omega), hc1, ht1⟩
  · have hb0 : (n == 0) = false := beq_eq_false_iff_ne.2 (by omega)
    go_enter Tryz.func30, Tryz.ntmps30
    go_wp2_with fail
    refine (draw_byte _ _ _ _ _ hc).mono ?_
    rintro e w1 ⟨x, rfl, hx0, hx1, hc1, ht1⟩
    go_wp2_with fail
    refine (draw_byte _ _ _ _ _ hc1).mono ?_
    rintro e w2 ⟨y, rfl, hy0, hy1, hc2, ht2⟩
    go_wp2_with fail
    refine (draw_byte _ _ _ _ _ hc2).mono ?_
    rintro e w3 ⟨z, rfl, hz0, hz1, hc3, ht3⟩
    go_wp2_with fail
    refine (draw_byte _ _ _ _ _ hc3).mono ?_
    rintro e w4 ⟨t, rfl, ht0, htt1, hc4, ht4⟩
    go_wp2
    go_ret
    exact ⟨_, rfl, Int.emod_nonneg _ (by omega), Int.emod_lt_of_pos _ (by omega), hc4, ((ht1.trans ht2).trans ht3).trans ht4⟩
set_option maxHeartbeats 800000 in
theorem draw_pick (w : World) (B g : Nat) (a : Option Addr) (zs : List Int) (cap : Nat) (ys : List Int) (hc : Cur w B a zs cap) (ho : Own .i64 w g ys) (hg : g ≠ B) (h1 : 1 ≤ ys.length) (h2 : ys.length ≤ 1048576) :
    Calls Tryz.prog 74 #[.pointer (some ⟨B, 0, none⟩), .slice (some ⟨g, 0, none⟩) ys.length ys.length] w fun e w' => ∃ x : Int, e = .returned (.int .i64 x) ∧ x ∈ ys ∧ Cur w' B a zs cap ∧ Turn B w w' := by
  obtain ⟨n, Hn⟩ : ∃ n, Hid (n = ys.length) := ⟨_, rfl⟩
  have hn1 : 1 ≤ n := by rw [Hn.out]; exact h1
  have hn2 : n ≤ 1048576 := by rw [Hn.out]; exact h2
  rw [← Hn.out]
  clear h1 h2
  go_enter Tryz.func74, Tryz.ntmps74
  go_wp2_with fail
  refine (draw_below _ _ _ _ _ _ hc (by omega) (by omega)).mono ?_
  rintro e w1 ⟨x, rfl, hx0, hx1, hc1, ht1⟩
  obtain ⟨k, rfl⟩ := Int.eq_ofNat_of_zero_le hx0
  have hk : k < n := by omega
  have hcl : w1.cell? ⟨g, k, none⟩ = some (.int .i64 (ys.getD k 0)) := (ht1.cell ho.lt hg).trans (ho.cell k (by rw [← Hn.out]; exact hk))
  have HM : Hid _ := getD_mem ys k (by rw [← Hn.out]; exact hk)
  generalize ys.getD k 0 = y at hcl HM
  go_wp2
  go_ret
  exact ⟨_, rfl, HM.out, hc1, ht1⟩
theorem own_litD (k : IntKind) (w : World) (T : TypeId) (ys : List Int) : Own k (w.alloc (.cells (ys.map (Value.int k)).toArray T)) w.heap.size ys := by
  have h := World.rowIs_alloc w (ys.map (Value.int k)).toArray T (fun i => .int k (ys.getD i 0)) (by
    intro i hi
    simp at hi
    simp [List.getD, hi])
  refine ⟨by simp, fun i hi => h.cell (by simpa using hi), fun i => h.frozen i⟩
set_option maxHeartbeats 800000 in
theorem draw_new (w : World) (a : Option Addr) (zs : List Int) (cap : Nat) (hs : Seg .u8 w a zs) (hb : ∀ z ∈ zs, (Lit.int .u8 z).wf = true) (hn : zs.length ≤ 1048577) :
    Calls Tryz.prog 29 #[.slice a zs.length cap] w fun e w' => e = .returned (.pointer (some ⟨w.heap.size, 0, none⟩)) ∧ Cur w' w.heap.size a zs cap ∧ Below w.heap.size w w' := by
  have hand := Wd.and30
  have HB : Hid _ := hb
  have HF : Hid _ := seg_lt hs
  have HE : Hid (∀ h : Int, ∀ T, Cur (w.alloc (.cells #[.slice a zs.length cap, .int .i64 0, .int .i64 h] T)) w.heap.size a zs cap) := by
    intro h T
    have hbw : Below w.heap.size w (w.alloc (.cells #[.slice a zs.length cap, .int .i64 0, .int .i64 h] T)) := (Below.refl _ _).alloc (Nat.le_refl _) _
    have hr := World.rowIs_alloc w #[.slice a zs.length cap, .int .i64 0, .int .i64 h] T (fun i => [.slice a zs.length cap, .int .i64 0, .int .i64 h].getD i (.bool false)) (by
      intro i hi
      match i, hi with
      | 0, _ => rfl
      | 1, _ => rfl
      | 2, _ => rfl)
    exact ⟨by simp, hr.cell (i := 0) (by simp), ⟨0, by omega, hr.cell (i := 1) (by simp)⟩, ⟨h, hr.cell (i := 2) (by simp)⟩, fun i => hr.frozen i, hs.below hbw, fun b off e hz => Nat.ne_of_lt (HF.out b off e hz), HB.out, hn⟩
  clear hb
  obtain ⟨n, Hn⟩ : ∃ n, Hid (n = zs.length) := ⟨_, rfl⟩
  have hn' : n ≤ 1048577 := by rw [Hn.out]; exact hn
  rw [← Hn.out] at HE ⊢
  clear hn
  go_enter Tryz.func29, Tryz.ntmps29
  go_wp2
  go_loop [3, 4] (fun h i => ∃ (k : Nat) (c : Int), k ≤ n ∧ i = .int .i64 k ∧ h = .int .i64 c ∧ 0 ≤ c ∧ c ≤ 1073741823) (fun _ i => n - (intOf i).toNat)
  case atStart => exact ⟨0, _, by omega, rfl, rfl, by omega, by omega⟩
  case round =>
    obtain ⟨k, c, hk, rfl, rfl, hc0, hc1⟩ := hrel
    by_cases hlt : k < n
    · by_cases h4 : (k : Int) < 4000
      · have hl : k < zs.length := by rw [← Hn.out]; exact hlt
        obtain ⟨b1, o1, rfl, hbl1, hcl⟩ := hs.at k hl
        have hbz := bounds_u8 (HB.out _ (getD_mem zs k hl))
        generalize zs.getD k 0 = z at hcl hbz
        obtain ⟨hz0, hz1⟩ := hbz
        clear hs hl hbl1
        go_wp2
        go_round
        case rel => exact ⟨k + 1, _, by omega, by go_num, rfl, Int.emod_nonneg _ (by decide), Int.le_of_lt_add_one (Int.emod_lt_of_pos _ (by decide))⟩
        case measure => simp [intOf]; omega
      · go_wp2
        go_ret
        exact ⟨rfl, HE.out _ _, (Below.refl _ _).alloc (Nat.le_refl _) _⟩
    · go_wp2
      go_ret
      exact ⟨rfl, HE.out _ _, (Below.refl _ _).alloc (Nat.le_refl _) _⟩

end Go.Proofs.YtlomcdgfcocmmaaGreatDoor
