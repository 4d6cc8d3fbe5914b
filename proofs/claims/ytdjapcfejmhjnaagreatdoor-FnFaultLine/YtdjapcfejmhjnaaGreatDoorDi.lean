/-
  What the draws of the specification return: numbers in their bounds, and a cursor that stays one. Conditions: the bytes drawn from are at most 1048576.
  What the specification's draws of instructions return: an instruction, and a cursor that stays one. Conditions: the bytes drawn from are at most 1048576.
-/
import Derived.Test.YtdjapcfejmhjnaaGreatDoorProg
import Derived.Test.YtdjapcfejmhjnaaGreatDoorDraws
import Derived.Deep.QuietTactic
import Derived.BigQuiet
import Derived.Test.YtdjapcfejmhjnaaGreatDoorEnc
import Derived.Test.YtdjapcfejmhjnaaGreatDoorShow
namespace Go.Proofs.YtdjapcfejmhjnaaGreatDoor
open Go.ChangeShapes Go.WideShapes Go.ChangeAt Go.RowKit Go.Deep
set_option linter.unusedVariables false

set_option maxHeartbeats 800000 in
theorem draw_byte (w : World) (B : Nat) (a : Option Addr) (zs : List Int) (cap : Nat) (hc : Cur w B a zs cap) :
    Calls Tryz.prog 36 #[.pointer (some ⟨B, 0, none⟩)] w fun e w' => ∃ x : Int, e = .returned (.int .i64 x) ∧ 0 ≤ x ∧ x ≤ 255 ∧ Cur w' B a zs cap ∧ Turn B w w' := by
  have hand := Wd.and255
  obtain ⟨i, hi, e1⟩ := hc.c1
  obtain ⟨h, e2⟩ := hc.c2
  have e0 := hc.c0
  have f1 := hc.free 1
  have f2 := hc.free 2
  have hsm := hc.small
  by_cases hlt : i < zs.length
  · obtain ⟨b, off, he, hbl, hcl⟩ := hc.seg.at i hlt
    have hne : b ≠ B := hc.far b off he (by omega)
    have hz := bounds_u8 (hc.byte _ (getD_mem zs i hlt))
    have HS : Hid (∀ v, Cur ((w.setCell ⟨B, 2, none⟩ (.int .i64 v)).setCell ⟨B, 1, none⟩ (.int .i64 ((i + 1 : Nat) : Int))) B a zs cap) := fun v => (hc.set2 v).set1 (i + 1) (by omega)
    subst he
    obtain ⟨hz0, hz1⟩ := hz
    generalize zs.getD i 0 = z at hcl hz0 hz1
    generalize zs.length = n at hlt e0 hi hsm
    clear hc
    go_enter Tryz.func36, Tryz.ntmps36
    go_wp2
    go_quiet (fail)
    go_wp2
    go_quiet (fail)
    go_wp2
    go_quiet (fail)
    go_wp2
    go_ret
    refine ⟨_, rfl, ?_, ?_, Cur.drewN (HS.out _) _, Turn.drewN (((Turn.refl _ _).setCell 2 _).setCell 1 _) _⟩
    · exact Int.emod_nonneg _ (by decide)
    · exact Int.le_of_lt_add_one (Int.emod_lt_of_pos _ (by decide))
  · have hlt2 : ¬ (i : Int) < (zs.length : Int) := by omega
    have HS : Hid (∀ v, Cur (w.setCell ⟨B, 2, none⟩ (.int .i64 v)) B a zs cap) := fun v => hc.set2 v
    generalize zs.length = n at hlt hlt2 e0 hi hsm
    clear hc
    go_enter Tryz.func36, Tryz.ntmps36
    go_wp2
    go_quiet (fail)
    go_wp2
    go_quiet (fail)
    go_wp2
    go_ret
    refine ⟨_, rfl, ?_, ?_, Cur.drewN (Cur.drewN (HS.out _) _) _, Turn.drewN (Turn.drewN ((Turn.refl _ _).setCell 2 _) _) _⟩
    · exact Int.emod_nonneg _ (by decide)
    · exact Int.le_of_lt_add_one (Int.emod_lt_of_pos _ (by decide))

set_option maxHeartbeats 800000 in
theorem draw_below (w : World) (B : Nat) (a : Option Addr) (zs : List Int) (cap : Nat) (n : Int) (hc : Cur w B a zs cap) (h1 : 1 ≤ n) (h2 : n ≤ 4294967296) :
    Calls Tryz.prog 19 #[.pointer (some ⟨B, 0, none⟩), .int .i64 n] w fun e w' => ∃ x : Int, e = .returned (.int .i64 x) ∧ 0 ≤ x ∧ x < n ∧ Cur w' B a zs cap ∧ Turn B w w' := by
  by_cases h256 : n ≤ 256
  · have hb0 : (n == 0) = false := beq_eq_false_iff_ne.2 (by omega)
    go_enter Tryz.func19, Tryz.ntmps19
    go_wp2_with fail
    refine (draw_byte _ _ _ _ _ hc).mono ?_
    rintro e w1 ⟨x, rfl, hx0, hx1, hc1, ht1⟩
    go_wp2
    go_ret
    exact ⟨_, rfl, Int.emod_nonneg _ (by omega), Int.emod_lt_of_pos _ (by omega), hc1, ht1⟩
  · have hb0 : (n == 0) = false := beq_eq_false_iff_ne.2 (by omega)
    go_enter Tryz.func19, Tryz.ntmps19
    go_wp2_with fail
    refine (draw_byte _ _ _ _ _ hc).mono ?_
    rintro e w1 ⟨x, rfl, hx0, hx1, hc1, ht1⟩
    go_wp2_with fail
    refine (draw_byte _ _ _ _ _ hc1).mono ?_
    rintro e w2 ⟨y, rfl, hy0, hy1, hc2, ht2⟩
    go_wp2_with fail
    refine (draw_byte _ _ _ _ _ hc2).mono ?_
    rintro e w3 ⟨z, rfl, hz0, hz1, hc3, ht3⟩
    go_wp2_with fail
    refine (draw_byte _ _ _ _ _ hc3).mono ?_
    rintro e w4 ⟨t, rfl, ht0, htt1, hc4, ht4⟩
    go_wp2
    go_ret
    exact ⟨_, rfl, Int.emod_nonneg _ (by omega), Int.emod_lt_of_pos _ (by omega), hc4, ((ht1.trans ht2).trans ht3).trans ht4⟩
set_option maxHeartbeats 800000 in
theorem draw_pick (w : World) (B g : Nat) (a : Option Addr) (zs : List Int) (cap : Nat) (ys : List Int) (hc : Cur w B a zs cap) (ho : Own .i64 w g ys) (hg : g ≠ B) (h1 : 1 ≤ ys.length) (h2 : ys.length ≤ 1048576) :
    Calls Tryz.prog 40 #[.pointer (some ⟨B, 0, none⟩), .slice (some ⟨g, 0, none⟩) ys.length ys.length] w fun e w' => ∃ x : Int, e = .returned (.int .i64 x) ∧ x ∈ ys ∧ Cur w' B a zs cap ∧ Turn B w w' := by
  obtain ⟨n, Hn⟩ : ∃ n, Hid (n = ys.length) := ⟨_, rfl⟩
  have hn1 : 1 ≤ n := by rw [Hn.out]; exact h1
  have hn2 : n ≤ 1048576 := by rw [Hn.out]; exact h2
  rw [← Hn.out]
  clear h1 h2
  go_enter Tryz.func40, Tryz.ntmps40
  go_wp2_with fail
  refine (draw_below _ _ _ _ _ _ hc (by omega) (by omega)).mono ?_
  rintro e w1 ⟨x, rfl, hx0, hx1, hc1, ht1⟩
  obtain ⟨k, rfl⟩ := Int.eq_ofNat_of_zero_le hx0
  have hk : k < n := by omega
  have hcl : w1.cell? ⟨g, k, none⟩ = some (.int .i64 (ys.getD k 0)) := (ht1.cell ho.lt hg).trans (ho.cell k (by rw [← Hn.out]; exact hk))
  have HM : Hid _ := getD_mem ys k (by rw [← Hn.out]; exact hk)
  generalize ys.getD k 0 = y at hcl HM
  go_wp2
  go_ret
  exact ⟨_, rfl, HM.out, hc1, ht1⟩
theorem own_lit (k : IntKind) (w : World) (T : TypeId) (ys : List Int) : Own k (w.alloc (.cells (ys.map (Value.int k)).toArray T)) w.heap.size ys := by
  have h := World.rowIs_alloc w (ys.map (Value.int k)).toArray T (fun i => .int k (ys.getD i 0)) (by
    intro i hi
    simp at hi
    simp [List.getD, hi])
  refine ⟨by simp, fun i hi => h.cell (by simpa using hi), fun i => h.frozen i⟩
set_option maxHeartbeats 800000 in
theorem draw_new (w : World) (a : Option Addr) (zs : List Int) (cap : Nat) (hs : Seg .u8 w a zs) (hb : ∀ z ∈ zs, (Lit.int .u8 z).wf = true) (hn : zs.length ≤ 1048576) :
    Calls Tryz.prog 18 #[.slice a zs.length cap] w fun e w' => e = .returned (.pointer (some ⟨w.heap.size, 0, none⟩)) ∧ Cur w' w.heap.size a zs cap ∧ Below w.heap.size w w' := by
  have hand := Wd.and30
  have HB : Hid _ := hb
  have HF : Hid _ := seg_lt hs
  have HE : Hid (∀ h : Int, ∀ T, Cur (w.alloc (.cells #[.slice a zs.length cap, .int .i64 0, .int .i64 h] T)) w.heap.size a zs cap) := by
    intro h T
    have hbw : Below w.heap.size w (w.alloc (.cells #[.slice a zs.length cap, .int .i64 0, .int .i64 h] T)) := (Below.refl _ _).alloc (Nat.le_refl _) _
    have hr := World.rowIs_alloc w #[.slice a zs.length cap, .int .i64 0, .int .i64 h] T (fun i => [.slice a zs.length cap, .int .i64 0, .int .i64 h].getD i (.bool false)) (by
      intro i hi
      match i, hi with
      | 0, _ => rfl
      | 1, _ => rfl
      | 2, _ => rfl)
    exact ⟨by simp, hr.cell (i := 0) (by simp), ⟨0, by omega, hr.cell (i := 1) (by simp)⟩, ⟨h, hr.cell (i := 2) (by simp)⟩, fun i => hr.frozen i, hs.below hbw, fun b off e hz => Nat.ne_of_lt (HF.out b off e hz), HB.out, hn⟩
  clear hb
  obtain ⟨n, Hn⟩ : ∃ n, Hid (n = zs.length) := ⟨_, rfl⟩
  have hn' : n ≤ 1048576 := by rw [Hn.out]; exact hn
  rw [← Hn.out] at HE ⊢
  clear hn
  go_enter Tryz.func18, Tryz.ntmps18
  go_wp2
  go_loop [3, 4] (fun h i => ∃ (k : Nat) (c : Int), k ≤ n ∧ i = .int .i64 k ∧ h = .int .i64 c ∧ 0 ≤ c ∧ c ≤ 1073741823) (fun _ i => n - (intOf i).toNat)
  case atStart => exact ⟨0, _, by omega, rfl, rfl, by omega, by omega⟩
  case round =>
    obtain ⟨k, c, hk, rfl, rfl, hc0, hc1⟩ := hrel
    by_cases hlt : k < n
    · by_cases h4 : (k : Int) < 4000
      · have hl : k < zs.length := by rw [← Hn.out]; exact hlt
        obtain ⟨b1, o1, rfl, hbl1, hcl⟩ := hs.at k hl
        have hbz := bounds_u8 (HB.out _ (getD_mem zs k hl))
        generalize zs.getD k 0 = z at hcl hbz
        obtain ⟨hz0, hz1⟩ := hbz
        clear hs hl hbl1
        go_wp2
        go_round
        case rel => exact ⟨k + 1, _, by omega, by go_num, rfl, Int.emod_nonneg _ (by decide), Int.le_of_lt_add_one (Int.emod_lt_of_pos _ (by decide))⟩
        case measure => simp [intOf]; omega
      · go_wp2
        go_ret
        exact ⟨rfl, HE.out _ _, (Below.refl _ _).alloc (Nat.le_refl _) _⟩
    · go_wp2
      go_ret
      exact ⟨rfl, HE.out _ _, (Below.refl _ _).alloc (Nat.le_refl _) _⟩

end Go.Proofs.YtdjapcfejmhjnaaGreatDoor
namespace Go.Proofs.YtdjapcfejmhjnaaGreatDoor
open Go.ChangeShapes Go.WideShapes Go.ChangeAt Go.RowKit Go.Deep
set_option linter.unusedVariables false
set_option maxRecDepth 20000

theorem Turn.set_new {B : Nat} {a w : World} (h : Turn B a w) (k o : Nat) (v : Value) (hk : a.heap.size ≤ k) : Turn B a (w.setCell ⟨k, o, none⟩ v) := by
  have hb : Below a.heap.size w (w.setCell ⟨k, o, none⟩ v) := (Below.refl _ w).setCell (p := ⟨k, o, none⟩) hk v
  exact ⟨hb.os.trans h.os, hb.tape.trans h.tape, hb.output.trans h.output, Nat.le_trans h.size hb.size, fun j hj hn => (hb.block j hj).trans (h.block j hj hn)⟩
theorem Cur.set_other {w : World} {B : Nat} {a : Option Addr} {zs : List Int} {cap : Nat} (h : Cur w B a zs cap) (k o : Nat) (v : Value) (hne : k ≠ B) (hs : ∀ b off, a = some ⟨b, off, none⟩ → 0 < zs.length → b ≠ k) : Cur (w.setCell ⟨k, o, none⟩ v) B a zs cap := by
  have hx : ∀ i, (w.setCell ⟨k, o, none⟩ v).cell? ⟨B, i, none⟩ = w.cell? ⟨B, i, none⟩ := fun i => World.cell?_setCell_other _ _ _ _ (by intro c; injection c with c1 c2 c3; exact hne c1)
  obtain ⟨i, hi, e1⟩ := h.c1
  obtain ⟨x, e2⟩ := h.c2
  exact ⟨by simpa using h.lt, (hx 0).trans h.c0, ⟨i, hi, (hx 1).trans e1⟩, ⟨x, (hx 2).trans e2⟩, fun i => by simpa using h.free i, h.seg.turn ((Turn.refl k w).setCell o v) hs, h.far, h.byte, h.small⟩
/-- The world of a draw of an instruction: the answer's cells, the instruction so far. -/
structure DI (w wr : World) (B rb ib : Nat) (ad : Option Addr) (zs : List Int) (cap : Nat) (o x y z m : Int) : Prop where
  turn : Turn B w wr
  cur : Cur wr B ad zs cap
  hB : B < w.heap.size
  hrb : w.heap.size ≤ rb
  hib : w.heap.size ≤ ib
  rlt : rb < wr.heap.size
  ilt : ib < wr.heap.size
  ne : rb ≠ ib
  seg : ∀ b off, ad = some ⟨b, off, none⟩ → 0 < zs.length → b < w.heap.size
  rc : ∀ i v, (#[Value.int .i64 0, .int .i64 0, .int .i64 0, .int .i64 0, .int .i64 0] : Array Value)[i]? = some v → wr.cell? ⟨rb, i, none⟩ = some v
  rf : ∀ i, wr.frozen? ⟨rb, i, none⟩ = false
  ic : ∀ i v, (#[Value.int .i64 o, .int .i64 x, .int .i64 y, .int .i64 z, .int .i64 m] : Array Value)[i]? = some v → wr.cell? ⟨ib, i, none⟩ = some v
  ifr : ∀ i, wr.frozen? ⟨ib, i, none⟩ = false
theorem DI.hop {w wr w2 : World} {B rb ib : Nat} {ad : Option Addr} {zs : List Int} {cap : Nat} {o x y z m : Int} (h : DI w wr B rb ib ad zs cap o x y z m) (ht : Turn B wr w2) (hc : Cur w2 B ad zs cap) : DI w w2 B rb ib ad zs cap o x y z m := by
  have h1 : rb ≠ B := by have := h.hB; have := h.hrb; omega
  have h2 : ib ≠ B := by have := h.hB; have := h.hib; omega
  exact ⟨h.turn.trans ht, hc, h.hB, h.hrb, h.hib, Nat.lt_of_lt_of_le h.rlt ht.size, Nat.lt_of_lt_of_le h.ilt ht.size, h.ne, h.seg, fun i v e => (ht.cell h.rlt h1).trans (h.rc i v e), fun i => (ht.frozen h.rlt h1).trans (h.rf i), fun i v e => (ht.cell h.ilt h2).trans (h.ic i v e), fun i => (ht.frozen h.ilt h2).trans (h.ifr i)⟩
theorem DI.set {w wr : World} {B rb ib : Nat} {ad : Option Addr} {zs : List Int} {cap : Nat} {o x y z m o' x' y' z' m' n : Int} (j : Nat) (h : DI w wr B rb ib ad zs cap o x y z m) (hj : j < 5)
    (e : (#[Value.int .i64 o, .int .i64 x, .int .i64 y, .int .i64 z, .int .i64 m] : Array Value).set! j (.int .i64 n) = #[.int .i64 o', .int .i64 x', .int .i64 y', .int .i64 z', .int .i64 m']) :
    DI w (wr.setCell ⟨ib, j, none⟩ (.int .i64 n)) B rb ib ad zs cap o' x' y' z' m' := by
  have h2 : ib ≠ B := by have := h.hB; have := h.hib; omega
  obtain ⟨u, hu⟩ : ∃ u, wr.cell? ⟨ib, j, none⟩ = some u := by
    obtain rfl | rfl | rfl | rfl | rfl : j = 0 ∨ j = 1 ∨ j = 2 ∨ j = 3 ∨ j = 4 := by omega
    · exact ⟨_, h.ic 0 _ rfl⟩
    · exact ⟨_, h.ic 1 _ rfl⟩
    · exact ⟨_, h.ic 2 _ rfl⟩
    · exact ⟨_, h.ic 3 _ rfl⟩
    · exact ⟨_, h.ic 4 _ rfl⟩
  refine ⟨h.turn.set_new ib j _ h.hib, h.cur.set_other ib j _ h2 (fun b off he hz => by have := h.seg b off he hz; have := h.hib; omega), h.hB, h.hrb, h.hib, by simpa using h.rlt, by simpa using h.ilt, h.ne, h.seg, fun i v he => ?_, fun i => by simpa using h.rf i, fun i v he => ?_, fun i => by simpa using h.ifr i⟩
  · rw [World.cell?_setCell_other _ _ _ _ (by intro c; injection c with c1 c2 c3; exact h.ne c1.symm)]
    exact h.rc i v he
  · by_cases c : j = i
    · subst c
      rw [World.cell?_setCell_same _ _ _ hu]
      rw [← e] at he
      simpa [hj] using he
    · rw [World.cell?_setCell_other _ _ _ _ (by intro c'; injection c' with c1 c2 c3; exact c c2)]
      apply h.ic i v
      rw [← e] at he
      simpa [c] using he
theorem DI.ret {w wr : World} {B rb ib : Nat} {ad : Option Addr} {zs : List Int} {cap : Nat} {o x y z m : Int} (h : DI w wr B rb ib ad zs cap o x y z m) (v0 v1 v2 v3 v4 : Value) :
    Cur (((((wr.setCell ⟨rb, 0, none⟩ v0).setCell ⟨rb, 1, none⟩ v1).setCell ⟨rb, 2, none⟩ v2).setCell ⟨rb, 3, none⟩ v3).setCell ⟨rb, 4, none⟩ v4) B ad zs cap ∧
    Turn B w (((((wr.setCell ⟨rb, 0, none⟩ v0).setCell ⟨rb, 1, none⟩ v1).setCell ⟨rb, 2, none⟩ v2).setCell ⟨rb, 3, none⟩ v3).setCell ⟨rb, 4, none⟩ v4) := by
  have h1 : rb ≠ B := by have := h.hB; have := h.hrb; omega
  have hs : ∀ b off, ad = some ⟨b, off, none⟩ → 0 < zs.length → b ≠ rb := fun b off he hz => by have := h.seg b off he hz; have := h.hrb; omega
  exact ⟨((((h.cur.set_other rb 0 _ h1 hs).set_other rb 1 _ h1 hs).set_other rb 2 _ h1 hs).set_other rb 3 _ h1 hs).set_other rb 4 _ h1 hs,
    ((((h.turn.set_new rb 0 _ h.hrb).set_new rb 1 _ h.hrb).set_new rb 2 _ h.hrb).set_new rb 3 _ h.hrb).set_new rb 4 _ h.hrb⟩
theorem DI.start {w w1 w2 : World} {B : Nat} {ad : Option Addr} {zs : List Int} {cap : Nat} {o x y z m : Int} (hc : Cur w B ad zs cap) (ht : Turn B (w.alloc (.cells #[Value.int .i64 0, .int .i64 0, .int .i64 0, .int .i64 0, .int .i64 0] 46)) w1) (hc1 : Cur w1 B ad zs cap)
    (ht2 : Turn B (w1.alloc (row o x y z m)) w2) (hc2 : Cur w2 B ad zs cap) : DI w w2 B w.heap.size w1.heap.size ad zs cap o x y z m := by
  have hB := hc.lt
  have hB1 := hc1.lt
  have s1 := ht.size
  have s2 := ht2.size
  simp at s1 s2
  have hrb : w.heap.size ≠ B := by omega
  have hib : w1.heap.size ≠ B := by omega
  refine ⟨(((Turn.refl B w).alloc _).trans ht).trans (((Turn.refl B w1).alloc _).trans ht2), hc2, hB, Nat.le_refl _, by omega, by omega, by omega, by omega, seg_lt hc.seg, fun i v h => ?_, fun i => ?_, fun i v h => ?_, fun i => ?_⟩
  · rw [ht2.cell (by simp; omega) hrb]
    exact cell_alloc ((ht.cell (by simp) hrb).trans (new_cell w _ 46 i v h))
  · rw [ht2.frozen (by simp; omega) hrb]
    have := (ht.frozen (o := i) (by simp) hrb).trans (by simp : (w.alloc (.cells #[Value.int .i64 0, .int .i64 0, .int .i64 0, .int .i64 0, .int .i64 0] 46)).frozen? ⟨w.heap.size, i, none⟩ = false)
    exact (((Below.refl _ w1).alloc (Nat.le_refl _) _).frozen (p := ⟨w.heap.size, i, none⟩) (by simp; omega)).trans this
  · rw [ht2.cell (by simp) hib]
    exact new_cell w1 _ 46 i v h
  · rw [ht2.frozen (by simp) hib]
    simp
set_option maxHeartbeats 4000000 in
theorem draw_ins (w : World) (B : Nat) (ad : Option Addr) (zs : List Int) (cap : Nat) (hc : Cur w B ad zs cap) :
    Calls Tryz.prog 23 #[.pointer (some ⟨B, 0, none⟩)] w fun e w' => ∃ op a b c m, e = .returned (ins op a b c m) ∧ Cur w' B ad zs cap ∧ Turn B w w' := by
  have HC : Hid _ := hc
  clear hc
  go_enter Tryz.func23, Tryz.ntmps23
  go_wp2_with fail
  refine (draw_below _ B _ _ _ 33 (HC.out.below ((Below.refl _ _).alloc (Nat.le_refl _) _)) (by omega) (by omega)).mono ?_
  rintro e w1 ⟨x, rfl, hx0, hx1, hc1, ht1⟩
  obtain ⟨k, rfl⟩ := Int.eq_ofNat_of_zero_le hx0
  have hk : k < 33 := by omega
  have HC1 : Hid _ := hc1
  have HT1 : Hid _ := ht1
  clear hc1 ht1
  rcases form_seven ⟨k, hk⟩ with hf | hf | hf | hf | hf | hf | hf
  · have HF : Hid (forms.getD k 0 = 0) := hf
    clear hf
    go_wp2_with fail
    refine (spec_form k 0 _ hk HF.out).mono ?_
    rintro e w2 ⟨rfl, hb2⟩
    have HD2 : Hid _ := DI.start HC.out HT1.out HC1.out (Turn.of_below hb2) (Cur.below (Cur.below HC1.out ((Below.refl _ _).alloc (Nat.le_refl _) _)) hb2)
    clear hb2
    have i0 := HD2.out.ic 0 _ rfl
    have r0 := HD2.out.rc 0 _ rfl
    have i1 := HD2.out.ic 1 _ rfl
    have r1 := HD2.out.rc 1 _ rfl
    have i2 := HD2.out.ic 2 _ rfl
    have r2 := HD2.out.rc 2 _ rfl
    have i3 := HD2.out.ic 3 _ rfl
    have r3 := HD2.out.rc 3 _ rfl
    have i4 := HD2.out.ic 4 _ rfl
    have r4 := HD2.out.rc 4 _ rfl
    have hif := HD2.out.ifr
    have hrf := HD2.out.rf
    have HE : Hid _ := DI.ret HD2.out
    go_wp2
    exact bodyPost_ret (v := ins k 0 0 0 0) (by simp [results, Tryz.results23, go_sem, r0, r1, r2, r3, r4]) rfl ⟨_, _, _, _, _, rfl, HE.out _ _ _ _ _⟩
  · have HF : Hid (forms.getD k 0 = 7) := hf
    clear hf
    go_wp2_with fail
    refine (spec_form k 7 _ hk HF.out).mono ?_
    rintro e w2 ⟨rfl, hb2⟩
    have HD2 : Hid _ := DI.start HC.out HT1.out HC1.out (Turn.of_below hb2) (Cur.below (Cur.below HC1.out ((Below.refl _ _).alloc (Nat.le_refl _) _)) hb2)
    clear hb2
    go_wp2_with fail
    refine (draw_below _ B _ _ _ 16 HD2.out.cur (by omega) (by omega)).mono ?_
    rintro e w3 ⟨va, rfl, hva0, hva1, hcc, htt⟩
    have HE3 : Hid _ := DI.hop HD2.out htt hcc
    clear hcc htt
    have i1 := HE3.out.ic 1 _ rfl
    have hif := HE3.out.ifr
    have HD3 : Hid _ := DI.set (n := va) 1 HE3.out (by omega) (show _ = (#[.int .i64 k, .int .i64 va, .int .i64 0, .int .i64 0, .int .i64 0] : Array Value) from rfl)
    go_wp2_with fail
    refine (draw_below _ B _ _ _ 16 HD3.out.cur (by omega) (by omega)).mono ?_
    rintro e w4 ⟨vb, rfl, hvb0, hvb1, hcc, htt⟩
    have HE4 : Hid _ := DI.hop HD3.out htt hcc
    clear hcc htt
    have i2 := HE4.out.ic 2 _ rfl
    have hif := HE4.out.ifr
    have HD4 : Hid _ := DI.set (n := vb) 2 HE4.out (by omega) (show _ = (#[.int .i64 k, .int .i64 va, .int .i64 vb, .int .i64 0, .int .i64 0] : Array Value) from rfl)
    go_wp2_with fail
    refine (draw_below _ B _ _ _ 16 HD4.out.cur (by omega) (by omega)).mono ?_
    rintro e w5 ⟨vc, rfl, hvc0, hvc1, hcc, htt⟩
    have HE5 : Hid _ := DI.hop HD4.out htt hcc
    clear hcc htt
    have i3 := HE5.out.ic 3 _ rfl
    have hif := HE5.out.ifr
    have HD5 : Hid _ := DI.set (n := vc) 3 HE5.out (by omega) (show _ = (#[.int .i64 k, .int .i64 va, .int .i64 vb, .int .i64 vc, .int .i64 0] : Array Value) from rfl)
    have i0 := HD5.out.ic 0 _ rfl
    have r0 := HD5.out.rc 0 _ rfl
    have i1 := HD5.out.ic 1 _ rfl
    have r1 := HD5.out.rc 1 _ rfl
    have i2 := HD5.out.ic 2 _ rfl
    have r2 := HD5.out.rc 2 _ rfl
    have i3 := HD5.out.ic 3 _ rfl
    have r3 := HD5.out.rc 3 _ rfl
    have i4 := HD5.out.ic 4 _ rfl
    have r4 := HD5.out.rc 4 _ rfl
    have hif := HD5.out.ifr
    have hrf := HD5.out.rf
    have HE : Hid _ := DI.ret HD5.out
    go_wp2
    exact bodyPost_ret (v := ins k va vb vc 0) (by simp [results, Tryz.results23, go_sem, r0, r1, r2, r3, r4]) rfl ⟨_, _, _, _, _, rfl, HE.out _ _ _ _ _⟩
  · have HF : Hid (forms.getD k 0 = 11) := hf
    clear hf
    go_wp2_with fail
    refine (spec_form k 11 _ hk HF.out).mono ?_
    rintro e w2 ⟨rfl, hb2⟩
    have HD2 : Hid _ := DI.start HC.out HT1.out HC1.out (Turn.of_below hb2) (Cur.below (Cur.below HC1.out ((Below.refl _ _).alloc (Nat.le_refl _) _)) hb2)
    clear hb2
    go_wp2_with fail
    refine (draw_below _ B _ _ _ 16 HD2.out.cur (by omega) (by omega)).mono ?_
    rintro e w3 ⟨va, rfl, hva0, hva1, hcc, htt⟩
    have HE3 : Hid _ := DI.hop HD2.out htt hcc
    clear hcc htt
    have i1 := HE3.out.ic 1 _ rfl
    have hif := HE3.out.ifr
    have HD3 : Hid _ := DI.set (n := va) 1 HE3.out (by omega) (show _ = (#[.int .i64 k, .int .i64 va, .int .i64 0, .int .i64 0, .int .i64 0] : Array Value) from rfl)
    go_wp2_with fail
    refine (draw_below _ B _ _ _ 16 HD3.out.cur (by omega) (by omega)).mono ?_
    rintro e w4 ⟨vb, rfl, hvb0, hvb1, hcc, htt⟩
    have HE4 : Hid _ := DI.hop HD3.out htt hcc
    clear hcc htt
    have i2 := HE4.out.ic 2 _ rfl
    have hif := HE4.out.ifr
    have HD4 : Hid _ := DI.set (n := vb) 2 HE4.out (by omega) (show _ = (#[.int .i64 k, .int .i64 va, .int .i64 vb, .int .i64 0, .int .i64 0] : Array Value) from rfl)
    go_wp2_with fail
    refine (draw_below _ B _ _ _ 17 HD4.out.cur (by omega) (by omega)).mono ?_
    rintro e w5 ⟨vm, rfl, hvm0, hvm1, hcc, htt⟩
    have HE5 : Hid _ := DI.hop HD4.out htt hcc
    clear hcc htt
    have i4 := HE5.out.ic 4 _ rfl
    have hif := HE5.out.ifr
    have HD5 : Hid _ := DI.set (n := vm - 8) 4 HE5.out (by omega) (show _ = (#[.int .i64 k, .int .i64 va, .int .i64 vb, .int .i64 0, .int .i64 ((vm - 8))] : Array Value) from rfl)
    go_wp2_with fail
    refine (draw_below _ B _ _ _ 8 HD5.out.cur (by omega) (by omega)).mono ?_
    rintro e w6 ⟨vs, rfl, hvs0, hvs1, hcc, htt⟩
    have HE6 : Hid _ := DI.hop HD5.out htt hcc
    clear hcc htt
    by_cases h0 : vs = 0
    · have hb : (vs == 0) = true := by simp [h0]
      clear h0
      go_wp2_with fail
      refine (draw_pick _ B w6.heap.size _ _ _ [-8192, 8191, 0] (HE6.out.cur.below ((Below.refl _ _).alloc (Nat.le_refl _) _)) (own_lit .i64 w6 3 _) (by have := HE6.out.cur.lt; omega) (by decide) (by decide)).mono ?_
      rintro e w7 ⟨vp, rfl, hvp, hcc, htt⟩
      have HE7 : Hid _ := DI.hop HE6.out (((Turn.refl _ _).alloc _).trans htt) hcc
      clear hcc htt hvp
      have i4 := HE7.out.ic 4 _ rfl
      have hif := HE7.out.ifr
      have HD7 : Hid _ := DI.set (n := vp) 4 HE7.out (by omega) (show _ = (#[.int .i64 k, .int .i64 va, .int .i64 vb, .int .i64 0, .int .i64 vp] : Array Value) from rfl)
      have i0 := HD7.out.ic 0 _ rfl
      have r0 := HD7.out.rc 0 _ rfl
      have i1 := HD7.out.ic 1 _ rfl
      have r1 := HD7.out.rc 1 _ rfl
      have i2 := HD7.out.ic 2 _ rfl
      have r2 := HD7.out.rc 2 _ rfl
      have i3 := HD7.out.ic 3 _ rfl
      have r3 := HD7.out.rc 3 _ rfl
      have i4 := HD7.out.ic 4 _ rfl
      have r4 := HD7.out.rc 4 _ rfl
      have hif := HD7.out.ifr
      have hrf := HD7.out.rf
      have HE : Hid _ := DI.ret HD7.out
      go_wp2
      exact bodyPost_ret (v := ins k va vb 0 vp) (by simp [results, Tryz.results23, go_sem, r0, r1, r2, r3, r4]) rfl ⟨_, _, _, _, _, rfl, HE.out _ _ _ _ _⟩
    · have hb : (vs == 0) = false := beq_eq_false_iff_ne.2 h0
      clear h0
      by_cases h1 : vs = 1
      · have hb1 : (vs == 1) = true := by simp [h1]
        clear h1
        go_wp2_with fail
        refine (draw_below _ B _ _ _ 16384 HE6.out.cur (by omega) (by omega)).mono ?_
        rintro e w7 ⟨vq, rfl, hvq0, hvq1, hcc, htt⟩
        have HE7 : Hid _ := DI.hop HE6.out htt hcc
        clear hcc htt
        have i4 := HE7.out.ic 4 _ rfl
        have hif := HE7.out.ifr
        have HD7 : Hid _ := DI.set (n := vq - 8192) 4 HE7.out (by omega) (show _ = (#[.int .i64 k, .int .i64 va, .int .i64 vb, .int .i64 0, .int .i64 ((vq - 8192))] : Array Value) from rfl)
        have i0 := HD7.out.ic 0 _ rfl
        have r0 := HD7.out.rc 0 _ rfl
        have i1 := HD7.out.ic 1 _ rfl
        have r1 := HD7.out.rc 1 _ rfl
        have i2 := HD7.out.ic 2 _ rfl
        have r2 := HD7.out.rc 2 _ rfl
        have i3 := HD7.out.ic 3 _ rfl
        have r3 := HD7.out.rc 3 _ rfl
        have i4 := HD7.out.ic 4 _ rfl
        have r4 := HD7.out.rc 4 _ rfl
        have hif := HD7.out.ifr
        have hrf := HD7.out.rf
        have HE : Hid _ := DI.ret HD7.out
        go_wp2
        exact bodyPost_ret (v := ins k va vb 0 (vq - 8192)) (by simp [results, Tryz.results23, go_sem, r0, r1, r2, r3, r4]) rfl ⟨_, _, _, _, _, rfl, HE.out _ _ _ _ _⟩
      · have hb1 : (vs == 1) = false := beq_eq_false_iff_ne.2 h1
        clear h1
        have i0 := HE6.out.ic 0 _ rfl
        have r0 := HE6.out.rc 0 _ rfl
        have i1 := HE6.out.ic 1 _ rfl
        have r1 := HE6.out.rc 1 _ rfl
        have i2 := HE6.out.ic 2 _ rfl
        have r2 := HE6.out.rc 2 _ rfl
        have i3 := HE6.out.ic 3 _ rfl
        have r3 := HE6.out.rc 3 _ rfl
        have i4 := HE6.out.ic 4 _ rfl
        have r4 := HE6.out.rc 4 _ rfl
        have hif := HE6.out.ifr
        have hrf := HE6.out.rf
        have HE : Hid _ := DI.ret HE6.out
        go_wp2
        exact bodyPost_ret (v := ins k va vb 0 (vm - 8)) (by simp [results, Tryz.results23, go_sem, r0, r1, r2, r3, r4]) rfl ⟨_, _, _, _, _, rfl, HE.out _ _ _ _ _⟩
  · have HF : Hid (forms.getD k 0 = 9) := hf
    clear hf
    go_wp2_with fail
    refine (spec_form k 9 _ hk HF.out).mono ?_
    rintro e w2 ⟨rfl, hb2⟩
    have HD2 : Hid _ := DI.start HC.out HT1.out HC1.out (Turn.of_below hb2) (Cur.below (Cur.below HC1.out ((Below.refl _ _).alloc (Nat.le_refl _) _)) hb2)
    clear hb2
    go_wp2_with fail
    refine (draw_below _ B _ _ _ 16 HD2.out.cur (by omega) (by omega)).mono ?_
    rintro e w3 ⟨va, rfl, hva0, hva1, hcc, htt⟩
    have HE3 : Hid _ := DI.hop HD2.out htt hcc
    clear hcc htt
    have i1 := HE3.out.ic 1 _ rfl
    have hif := HE3.out.ifr
    have HD3 : Hid _ := DI.set (n := va) 1 HE3.out (by omega) (show _ = (#[.int .i64 k, .int .i64 va, .int .i64 0, .int .i64 0, .int .i64 0] : Array Value) from rfl)
    go_wp2_with fail
    refine (draw_below _ B _ _ _ 17 HD3.out.cur (by omega) (by omega)).mono ?_
    rintro e w4 ⟨vm, rfl, hvm0, hvm1, hcc, htt⟩
    have HE4 : Hid _ := DI.hop HD3.out htt hcc
    clear hcc htt
    have i4 := HE4.out.ic 4 _ rfl
    have hif := HE4.out.ifr
    have HD4 : Hid _ := DI.set (n := vm - 8) 4 HE4.out (by omega) (show _ = (#[.int .i64 k, .int .i64 va, .int .i64 0, .int .i64 0, .int .i64 ((vm - 8))] : Array Value) from rfl)
    go_wp2_with fail
    refine (draw_below _ B _ _ _ 8 HD4.out.cur (by omega) (by omega)).mono ?_
    rintro e w5 ⟨vs, rfl, hvs0, hvs1, hcc, htt⟩
    have HE5 : Hid _ := DI.hop HD4.out htt hcc
    clear hcc htt
    by_cases h0 : vs = 0
    · have hb : (vs == 0) = true := by simp [h0]
      clear h0
      go_wp2_with fail
      refine (draw_pick _ B w5.heap.size _ _ _ [-8192, 8191, 0] (HE5.out.cur.below ((Below.refl _ _).alloc (Nat.le_refl _) _)) (own_lit .i64 w5 3 _) (by have := HE5.out.cur.lt; omega) (by decide) (by decide)).mono ?_
      rintro e w6 ⟨vp, rfl, hvp, hcc, htt⟩
      have HE6 : Hid _ := DI.hop HE5.out (((Turn.refl _ _).alloc _).trans htt) hcc
      clear hcc htt hvp
      have i4 := HE6.out.ic 4 _ rfl
      have hif := HE6.out.ifr
      have HD6 : Hid _ := DI.set (n := vp) 4 HE6.out (by omega) (show _ = (#[.int .i64 k, .int .i64 va, .int .i64 0, .int .i64 0, .int .i64 vp] : Array Value) from rfl)
      have i0 := HD6.out.ic 0 _ rfl
      have r0 := HD6.out.rc 0 _ rfl
      have i1 := HD6.out.ic 1 _ rfl
      have r1 := HD6.out.rc 1 _ rfl
      have i2 := HD6.out.ic 2 _ rfl
      have r2 := HD6.out.rc 2 _ rfl
      have i3 := HD6.out.ic 3 _ rfl
      have r3 := HD6.out.rc 3 _ rfl
      have i4 := HD6.out.ic 4 _ rfl
      have r4 := HD6.out.rc 4 _ rfl
      have hif := HD6.out.ifr
      have hrf := HD6.out.rf
      have HE : Hid _ := DI.ret HD6.out
      go_wp2
      exact bodyPost_ret (v := ins k va 0 0 vp) (by simp [results, Tryz.results23, go_sem, r0, r1, r2, r3, r4]) rfl ⟨_, _, _, _, _, rfl, HE.out _ _ _ _ _⟩
    · have hb : (vs == 0) = false := beq_eq_false_iff_ne.2 h0
      clear h0
      by_cases h1 : vs = 1
      · have hb1 : (vs == 1) = true := by simp [h1]
        clear h1
        go_wp2_with fail
        refine (draw_below _ B _ _ _ 16384 HE5.out.cur (by omega) (by omega)).mono ?_
        rintro e w6 ⟨vq, rfl, hvq0, hvq1, hcc, htt⟩
        have HE6 : Hid _ := DI.hop HE5.out htt hcc
        clear hcc htt
        have i4 := HE6.out.ic 4 _ rfl
        have hif := HE6.out.ifr
        have HD6 : Hid _ := DI.set (n := vq - 8192) 4 HE6.out (by omega) (show _ = (#[.int .i64 k, .int .i64 va, .int .i64 0, .int .i64 0, .int .i64 ((vq - 8192))] : Array Value) from rfl)
        have i0 := HD6.out.ic 0 _ rfl
        have r0 := HD6.out.rc 0 _ rfl
        have i1 := HD6.out.ic 1 _ rfl
        have r1 := HD6.out.rc 1 _ rfl
        have i2 := HD6.out.ic 2 _ rfl
        have r2 := HD6.out.rc 2 _ rfl
        have i3 := HD6.out.ic 3 _ rfl
        have r3 := HD6.out.rc 3 _ rfl
        have i4 := HD6.out.ic 4 _ rfl
        have r4 := HD6.out.rc 4 _ rfl
        have hif := HD6.out.ifr
        have hrf := HD6.out.rf
        have HE : Hid _ := DI.ret HD6.out
        go_wp2
        exact bodyPost_ret (v := ins k va 0 0 (vq - 8192)) (by simp [results, Tryz.results23, go_sem, r0, r1, r2, r3, r4]) rfl ⟨_, _, _, _, _, rfl, HE.out _ _ _ _ _⟩
      · have hb1 : (vs == 1) = false := beq_eq_false_iff_ne.2 h1
        clear h1
        have i0 := HE5.out.ic 0 _ rfl
        have r0 := HE5.out.rc 0 _ rfl
        have i1 := HE5.out.ic 1 _ rfl
        have r1 := HE5.out.rc 1 _ rfl
        have i2 := HE5.out.ic 2 _ rfl
        have r2 := HE5.out.rc 2 _ rfl
        have i3 := HE5.out.ic 3 _ rfl
        have r3 := HE5.out.rc 3 _ rfl
        have i4 := HE5.out.ic 4 _ rfl
        have r4 := HE5.out.rc 4 _ rfl
        have hif := HE5.out.ifr
        have hrf := HE5.out.rf
        have HE : Hid _ := DI.ret HE5.out
        go_wp2
        exact bodyPost_ret (v := ins k va 0 0 (vm - 8)) (by simp [results, Tryz.results23, go_sem, r0, r1, r2, r3, r4]) rfl ⟨_, _, _, _, _, rfl, HE.out _ _ _ _ _⟩
  · have HF : Hid (forms.getD k 0 = 10) := hf
    clear hf
    go_wp2_with fail
    refine (spec_form k 10 _ hk HF.out).mono ?_
    rintro e w2 ⟨rfl, hb2⟩
    have HD2 : Hid _ := DI.start HC.out HT1.out HC1.out (Turn.of_below hb2) (Cur.below (Cur.below HC1.out ((Below.refl _ _).alloc (Nat.le_refl _) _)) hb2)
    clear hb2
    go_wp2_with fail
    refine (draw_below _ B _ _ _ 16 HD2.out.cur (by omega) (by omega)).mono ?_
    rintro e w3 ⟨vb, rfl, hvb0, hvb1, hcc, htt⟩
    have HE3 : Hid _ := DI.hop HD2.out htt hcc
    clear hcc htt
    have i2 := HE3.out.ic 2 _ rfl
    have hif := HE3.out.ifr
    have HD3 : Hid _ := DI.set (n := vb) 2 HE3.out (by omega) (show _ = (#[.int .i64 k, .int .i64 0, .int .i64 vb, .int .i64 0, .int .i64 0] : Array Value) from rfl)
    go_wp2_with fail
    refine (draw_below _ B _ _ _ 17 HD3.out.cur (by omega) (by omega)).mono ?_
    rintro e w4 ⟨vm, rfl, hvm0, hvm1, hcc, htt⟩
    have HE4 : Hid _ := DI.hop HD3.out htt hcc
    clear hcc htt
    have i4 := HE4.out.ic 4 _ rfl
    have hif := HE4.out.ifr
    have HD4 : Hid _ := DI.set (n := vm - 8) 4 HE4.out (by omega) (show _ = (#[.int .i64 k, .int .i64 0, .int .i64 vb, .int .i64 0, .int .i64 ((vm - 8))] : Array Value) from rfl)
    go_wp2_with fail
    refine (draw_below _ B _ _ _ 8 HD4.out.cur (by omega) (by omega)).mono ?_
    rintro e w5 ⟨vs, rfl, hvs0, hvs1, hcc, htt⟩
    have HE5 : Hid _ := DI.hop HD4.out htt hcc
    clear hcc htt
    by_cases h0 : vs = 0
    · have hb : (vs == 0) = true := by simp [h0]
      clear h0
      go_wp2_with fail
      refine (draw_pick _ B w5.heap.size _ _ _ [-8192, 8191, 0] (HE5.out.cur.below ((Below.refl _ _).alloc (Nat.le_refl _) _)) (own_lit .i64 w5 3 _) (by have := HE5.out.cur.lt; omega) (by decide) (by decide)).mono ?_
      rintro e w6 ⟨vp, rfl, hvp, hcc, htt⟩
      have HE6 : Hid _ := DI.hop HE5.out (((Turn.refl _ _).alloc _).trans htt) hcc
      clear hcc htt hvp
      have i4 := HE6.out.ic 4 _ rfl
      have hif := HE6.out.ifr
      have HD6 : Hid _ := DI.set (n := vp) 4 HE6.out (by omega) (show _ = (#[.int .i64 k, .int .i64 0, .int .i64 vb, .int .i64 0, .int .i64 vp] : Array Value) from rfl)
      have i0 := HD6.out.ic 0 _ rfl
      have r0 := HD6.out.rc 0 _ rfl
      have i1 := HD6.out.ic 1 _ rfl
      have r1 := HD6.out.rc 1 _ rfl
      have i2 := HD6.out.ic 2 _ rfl
      have r2 := HD6.out.rc 2 _ rfl
      have i3 := HD6.out.ic 3 _ rfl
      have r3 := HD6.out.rc 3 _ rfl
      have i4 := HD6.out.ic 4 _ rfl
      have r4 := HD6.out.rc 4 _ rfl
      have hif := HD6.out.ifr
      have hrf := HD6.out.rf
      have HE : Hid _ := DI.ret HD6.out
      go_wp2
      exact bodyPost_ret (v := ins k 0 vb 0 vp) (by simp [results, Tryz.results23, go_sem, r0, r1, r2, r3, r4]) rfl ⟨_, _, _, _, _, rfl, HE.out _ _ _ _ _⟩
    · have hb : (vs == 0) = false := beq_eq_false_iff_ne.2 h0
      clear h0
      by_cases h1 : vs = 1
      · have hb1 : (vs == 1) = true := by simp [h1]
        clear h1
        go_wp2_with fail
        refine (draw_below _ B _ _ _ 16384 HE5.out.cur (by omega) (by omega)).mono ?_
        rintro e w6 ⟨vq, rfl, hvq0, hvq1, hcc, htt⟩
        have HE6 : Hid _ := DI.hop HE5.out htt hcc
        clear hcc htt
        have i4 := HE6.out.ic 4 _ rfl
        have hif := HE6.out.ifr
        have HD6 : Hid _ := DI.set (n := vq - 8192) 4 HE6.out (by omega) (show _ = (#[.int .i64 k, .int .i64 0, .int .i64 vb, .int .i64 0, .int .i64 ((vq - 8192))] : Array Value) from rfl)
        have i0 := HD6.out.ic 0 _ rfl
        have r0 := HD6.out.rc 0 _ rfl
        have i1 := HD6.out.ic 1 _ rfl
        have r1 := HD6.out.rc 1 _ rfl
        have i2 := HD6.out.ic 2 _ rfl
        have r2 := HD6.out.rc 2 _ rfl
        have i3 := HD6.out.ic 3 _ rfl
        have r3 := HD6.out.rc 3 _ rfl
        have i4 := HD6.out.ic 4 _ rfl
        have r4 := HD6.out.rc 4 _ rfl
        have hif := HD6.out.ifr
        have hrf := HD6.out.rf
        have HE : Hid _ := DI.ret HD6.out
        go_wp2
        exact bodyPost_ret (v := ins k 0 vb 0 (vq - 8192)) (by simp [results, Tryz.results23, go_sem, r0, r1, r2, r3, r4]) rfl ⟨_, _, _, _, _, rfl, HE.out _ _ _ _ _⟩
      · have hb1 : (vs == 1) = false := beq_eq_false_iff_ne.2 h1
        clear h1
        have i0 := HE5.out.ic 0 _ rfl
        have r0 := HE5.out.rc 0 _ rfl
        have i1 := HE5.out.ic 1 _ rfl
        have r1 := HE5.out.rc 1 _ rfl
        have i2 := HE5.out.ic 2 _ rfl
        have r2 := HE5.out.rc 2 _ rfl
        have i3 := HE5.out.ic 3 _ rfl
        have r3 := HE5.out.rc 3 _ rfl
        have i4 := HE5.out.ic 4 _ rfl
        have r4 := HE5.out.rc 4 _ rfl
        have hif := HE5.out.ifr
        have hrf := HE5.out.rf
        have HE : Hid _ := DI.ret HE5.out
        go_wp2
        exact bodyPost_ret (v := ins k 0 vb 0 (vm - 8)) (by simp [results, Tryz.results23, go_sem, r0, r1, r2, r3, r4]) rfl ⟨_, _, _, _, _, rfl, HE.out _ _ _ _ _⟩
  · have HF : Hid (forms.getD k 0 = 1) := hf
    clear hf
    go_wp2_with fail
    refine (spec_form k 1 _ hk HF.out).mono ?_
    rintro e w2 ⟨rfl, hb2⟩
    have HD2 : Hid _ := DI.start HC.out HT1.out HC1.out (Turn.of_below hb2) (Cur.below (Cur.below HC1.out ((Below.refl _ _).alloc (Nat.le_refl _) _)) hb2)
    clear hb2
    go_wp2_with fail
    refine (draw_below _ B _ _ _ 16 HD2.out.cur (by omega) (by omega)).mono ?_
    rintro e w3 ⟨va, rfl, hva0, hva1, hcc, htt⟩
    have HE3 : Hid _ := DI.hop HD2.out htt hcc
    clear hcc htt
    have i1 := HE3.out.ic 1 _ rfl
    have hif := HE3.out.ifr
    have HD3 : Hid _ := DI.set (n := va) 1 HE3.out (by omega) (show _ = (#[.int .i64 k, .int .i64 va, .int .i64 0, .int .i64 0, .int .i64 0] : Array Value) from rfl)
    have i0 := HD3.out.ic 0 _ rfl
    have r0 := HD3.out.rc 0 _ rfl
    have i1 := HD3.out.ic 1 _ rfl
    have r1 := HD3.out.rc 1 _ rfl
    have i2 := HD3.out.ic 2 _ rfl
    have r2 := HD3.out.rc 2 _ rfl
    have i3 := HD3.out.ic 3 _ rfl
    have r3 := HD3.out.rc 3 _ rfl
    have i4 := HD3.out.ic 4 _ rfl
    have r4 := HD3.out.rc 4 _ rfl
    have hif := HD3.out.ifr
    have hrf := HD3.out.rf
    have HE : Hid _ := DI.ret HD3.out
    go_wp2
    exact bodyPost_ret (v := ins k va 0 0 0) (by simp [results, Tryz.results23, go_sem, r0, r1, r2, r3, r4]) rfl ⟨_, _, _, _, _, rfl, HE.out _ _ _ _ _⟩
  · have HF : Hid (forms.getD k 0 = 8) := hf
    clear hf
    go_wp2_with fail
    refine (spec_form k 8 _ hk HF.out).mono ?_
    rintro e w2 ⟨rfl, hb2⟩
    have HD2 : Hid _ := DI.start HC.out HT1.out HC1.out (Turn.of_below hb2) (Cur.below (Cur.below HC1.out ((Below.refl _ _).alloc (Nat.le_refl _) _)) hb2)
    clear hb2
    go_wp2_with fail
    refine (draw_below _ B _ _ _ 17 HD2.out.cur (by omega) (by omega)).mono ?_
    rintro e w3 ⟨vm, rfl, hvm0, hvm1, hcc, htt⟩
    have HE3 : Hid _ := DI.hop HD2.out htt hcc
    clear hcc htt
    have i4 := HE3.out.ic 4 _ rfl
    have hif := HE3.out.ifr
    have HD3 : Hid _ := DI.set (n := vm - 8) 4 HE3.out (by omega) (show _ = (#[.int .i64 k, .int .i64 0, .int .i64 0, .int .i64 0, .int .i64 ((vm - 8))] : Array Value) from rfl)
    go_wp2_with fail
    refine (draw_below _ B _ _ _ 8 HD3.out.cur (by omega) (by omega)).mono ?_
    rintro e w4 ⟨vs, rfl, hvs0, hvs1, hcc, htt⟩
    have HE4 : Hid _ := DI.hop HD3.out htt hcc
    clear hcc htt
    by_cases h0 : vs = 0
    · have hb : (vs == 0) = true := by simp [h0]
      clear h0
      go_wp2_with fail
      refine (draw_pick _ B w4.heap.size _ _ _ [-8192, 8191, 0] (HE4.out.cur.below ((Below.refl _ _).alloc (Nat.le_refl _) _)) (own_lit .i64 w4 3 _) (by have := HE4.out.cur.lt; omega) (by decide) (by decide)).mono ?_
      rintro e w5 ⟨vp, rfl, hvp, hcc, htt⟩
      have HE5 : Hid _ := DI.hop HE4.out (((Turn.refl _ _).alloc _).trans htt) hcc
      clear hcc htt hvp
      have i4 := HE5.out.ic 4 _ rfl
      have hif := HE5.out.ifr
      have HD5 : Hid _ := DI.set (n := vp) 4 HE5.out (by omega) (show _ = (#[.int .i64 k, .int .i64 0, .int .i64 0, .int .i64 0, .int .i64 vp] : Array Value) from rfl)
      have i0 := HD5.out.ic 0 _ rfl
      have r0 := HD5.out.rc 0 _ rfl
      have i1 := HD5.out.ic 1 _ rfl
      have r1 := HD5.out.rc 1 _ rfl
      have i2 := HD5.out.ic 2 _ rfl
      have r2 := HD5.out.rc 2 _ rfl
      have i3 := HD5.out.ic 3 _ rfl
      have r3 := HD5.out.rc 3 _ rfl
      have i4 := HD5.out.ic 4 _ rfl
      have r4 := HD5.out.rc 4 _ rfl
      have hif := HD5.out.ifr
      have hrf := HD5.out.rf
      have HE : Hid _ := DI.ret HD5.out
      go_wp2
      exact bodyPost_ret (v := ins k 0 0 0 vp) (by simp [results, Tryz.results23, go_sem, r0, r1, r2, r3, r4]) rfl ⟨_, _, _, _, _, rfl, HE.out _ _ _ _ _⟩
    · have hb : (vs == 0) = false := beq_eq_false_iff_ne.2 h0
      clear h0
      by_cases h1 : vs = 1
      · have hb1 : (vs == 1) = true := by simp [h1]
        clear h1
        go_wp2_with fail
        refine (draw_below _ B _ _ _ 16384 HE4.out.cur (by omega) (by omega)).mono ?_
        rintro e w5 ⟨vq, rfl, hvq0, hvq1, hcc, htt⟩
        have HE5 : Hid _ := DI.hop HE4.out htt hcc
        clear hcc htt
        have i4 := HE5.out.ic 4 _ rfl
        have hif := HE5.out.ifr
        have HD5 : Hid _ := DI.set (n := vq - 8192) 4 HE5.out (by omega) (show _ = (#[.int .i64 k, .int .i64 0, .int .i64 0, .int .i64 0, .int .i64 ((vq - 8192))] : Array Value) from rfl)
        have i0 := HD5.out.ic 0 _ rfl
        have r0 := HD5.out.rc 0 _ rfl
        have i1 := HD5.out.ic 1 _ rfl
        have r1 := HD5.out.rc 1 _ rfl
        have i2 := HD5.out.ic 2 _ rfl
        have r2 := HD5.out.rc 2 _ rfl
        have i3 := HD5.out.ic 3 _ rfl
        have r3 := HD5.out.rc 3 _ rfl
        have i4 := HD5.out.ic 4 _ rfl
        have r4 := HD5.out.rc 4 _ rfl
        have hif := HD5.out.ifr
        have hrf := HD5.out.rf
        have HE : Hid _ := DI.ret HD5.out
        go_wp2
        exact bodyPost_ret (v := ins k 0 0 0 (vq - 8192)) (by simp [results, Tryz.results23, go_sem, r0, r1, r2, r3, r4]) rfl ⟨_, _, _, _, _, rfl, HE.out _ _ _ _ _⟩
      · have hb1 : (vs == 1) = false := beq_eq_false_iff_ne.2 h1
        clear h1
        have i0 := HE4.out.ic 0 _ rfl
        have r0 := HE4.out.rc 0 _ rfl
        have i1 := HE4.out.ic 1 _ rfl
        have r1 := HE4.out.rc 1 _ rfl
        have i2 := HE4.out.ic 2 _ rfl
        have r2 := HE4.out.rc 2 _ rfl
        have i3 := HE4.out.ic 3 _ rfl
        have r3 := HE4.out.rc 3 _ rfl
        have i4 := HE4.out.ic 4 _ rfl
        have r4 := HE4.out.rc 4 _ rfl
        have hif := HE4.out.ifr
        have hrf := HE4.out.rf
        have HE : Hid _ := DI.ret HE4.out
        go_wp2
        exact bodyPost_ret (v := ins k 0 0 0 (vm - 8)) (by simp [results, Tryz.results23, go_sem, r0, r1, r2, r3, r4]) rfl ⟨_, _, _, _, _, rfl, HE.out _ _ _ _ _⟩
end Go.Proofs.YtdjapcfejmhjnaaGreatDoor
