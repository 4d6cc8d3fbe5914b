
/-
  What the laws' helpers on caches do, in a namespace of their own: copies, measure, comparison. Conditions: rows and ways are at most 1048576 together.
-/
import Derived.Test.YtknipnenipdgiaaGreatDoorProg
import Derived.Test.YtknipnenipdgiaaGreatDoorShp
import Derived.Test.YtknipnenipdgiaaGreatDoorBas
import Derived.Test.YtknipnenipdgiaaGreatDoorGrw
import Derived.Deep.RegionHeld3
import Derived.Deep.QuietTactic
import Derived.BigQuiet
namespace Go.Proofs.YtknipnenipdgiaaGreatDoor
open Go.ChangeShapes Go.WideShapes Go.ChangeAt Go.RowKit Go.Deep
set_option linter.unusedVariables false
namespace Cw

/-- In the block 'B', from 'off' on, n ways have their place; the first k hold those of 'ws'. -/
structure PairBlk (w : World) (B off n k : Nat) (ws : List Wy) : Prop where
  lt : B < w.heap.size
  free : ∀ j, w.frozen? ⟨B, j, none⟩ = false
  room : ∀ i, i < n → (∃ u, w.cell? ⟨B, off + i * 2, none⟩ = some u) ∧ ∃ u, w.cell? ⟨B, off + i * 2 + 1, none⟩ = some u
  done : ∀ i, i < k → w.cell? ⟨B, off + i * 2, none⟩ = some (.int .i64 (ws.getD i wd).1) ∧ w.cell? ⟨B, off + i * 2 + 1, none⟩ = some (.bool (ws.getD i wd).2)
theorem PairBlk.below {w w' : World} {B off n k : Nat} {ws : List Wy} (h : PairBlk w B off n k ws) (hb : Below w.heap.size w w') : PairBlk w' B off n k ws :=
  ⟨Nat.lt_of_lt_of_le h.lt hb.size, fun j => (hb.frozen (p := ⟨B, j, none⟩) h.lt).trans (h.free j), fun i hi => by
    rw [hb.cell (p := ⟨B, off + i * 2, none⟩) h.lt, hb.cell (p := ⟨B, off + i * 2 + 1, none⟩) h.lt]; exact h.room i hi, fun i hi => by
    rw [hb.cell (p := ⟨B, off + i * 2, none⟩) h.lt, hb.cell (p := ⟨B, off + i * 2 + 1, none⟩) h.lt]; exact h.done i hi⟩
theorem PairBlk.put {w : World} {B off n k : Nat} {ws : List Wy} (h : PairBlk w B off n k ws) (hk : k < n) (z : Int) (d : Bool) (he : ws.getD k wd = (z, d)) :
    PairBlk ((w.setCell ⟨B, off + k * 2, none⟩ (.int .i64 z)).setCell ⟨B, off + k * 2 + 1, none⟩ (.bool d)) B off n (k + 1) ws := by
  obtain ⟨⟨u1, hu1⟩, ⟨u2, hu2⟩⟩ := h.room k hk
  have hc3 : (w.setCell ⟨B, off + k * 2, none⟩ (.int .i64 z)).cell? ⟨B, off + k * 2 + 1, none⟩ = some u2 := by rw [World.cell?_setCell_other _ _ _ _ (by simp)]; exact hu2
  have at1 : ((w.setCell ⟨B, off + k * 2, none⟩ (.int .i64 z)).setCell ⟨B, off + k * 2 + 1, none⟩ (.bool d)).cell? ⟨B, off + k * 2, none⟩ = some (.int .i64 z) := by
    rw [World.cell?_setCell_other _ _ _ _ (by simp)]
    exact World.cell?_setCell_same _ _ _ hu1
  have at2 : ((w.setCell ⟨B, off + k * 2, none⟩ (.int .i64 z)).setCell ⟨B, off + k * 2 + 1, none⟩ (.bool d)).cell? ⟨B, off + k * 2 + 1, none⟩ = some (.bool d) := World.cell?_setCell_same _ _ _ hc3
  have far : ∀ (q : Nat), q ≠ off + k * 2 → q ≠ off + k * 2 + 1 → ((w.setCell ⟨B, off + k * 2, none⟩ (.int .i64 z)).setCell ⟨B, off + k * 2 + 1, none⟩ (.bool d)).cell? ⟨B, q, none⟩ = w.cell? ⟨B, q, none⟩ := fun q h1 h2 => by
    rw [World.cell?_setCell_other _ _ _ _ (by intro c; injection c with c1 c2 c3; omega), World.cell?_setCell_other _ _ _ _ (by intro c; injection c with c1 c2 c3; omega)]
  refine ⟨by simpa using h.lt, fun j => by rw [World.frozen?_setCell, World.frozen?_setCell]; exact h.free j, fun i hi => ?_, fun i hi => ?_⟩
  · by_cases e : i = k
    · subst e; exact ⟨⟨_, at1⟩, ⟨_, at2⟩⟩
    · rw [far (off + i * 2) (by omega) (by omega), far (off + i * 2 + 1) (by omega) (by omega)]
      exact h.room i hi
  · by_cases e : i = k
    · subst e; rw [he]; exact ⟨at1, at2⟩
    · rw [far (off + i * 2) (by omega) (by omega), far (off + i * 2 + 1) (by omega) (by omega)]
      exact h.done i (by omega)
theorem made_pair (n i : Nat) (hi : i < n) : (madeCells #[.int .i64 0, .bool false] (n * 2))[i * 2]? = some (.int .i64 0) ∧ (madeCells #[.int .i64 0, .bool false] (n * 2))[i * 2 + 1]? = some (.bool false) := by
  have h1 : i * 2 < n * 2 := by omega
  have h2 : i * 2 + 1 < n * 2 := by omega
  have e1 : (i * 2) % 2 = 0 := by omega
  have e2 : (i * 2 + 1) % 2 = 1 := by omega
  constructor <;> simp [madeCells, h1, h2, e1, e2]
theorem PairBlk.made (w : World) (n : Nat) (T : TypeId) (ws : List Wy) : PairBlk (w.alloc (.cells (madeCells #[.int .i64 0, .bool false] (n * 2)) T)) w.heap.size 0 n 0 ws := by
  refine ⟨by simp, fun j => by simp, fun i hi => ?_, fun i hi => absurd hi (by omega)⟩
  obtain ⟨h1, h2⟩ := made_pair n i hi
  rw [Nat.zero_add]
  exact ⟨⟨_, new_cell w _ T _ _ h1⟩, ⟨_, new_cell w _ T _ _ h2⟩⟩
theorem infoW : (Tryz.prog.info? 196).map (fun i => (i.zero, i.size, i.bytes)) = some (some (.agg #[.int .i64 0, .bool false]), 2, 16) := by kernel_rfl
theorem infoR : (Tryz.prog.info? 194).map (fun i => (i.zero, i.size, i.bytes)) = some (some (.slice none 0 0), 1, 24) := by kernel_rfl
theorem run_make_pairs (n : Nat) (hn : n ≤ 1048576) (w : World) : (Instr.makeSlice 194 (.int .i64 (n : Int)) (.int .i64 (n : Int))).run Tryz.prog w = .ok (.slice (some ⟨w.heap.size, 0, none⟩) n n) (w.alloc (.cells (madeCells #[.int .i64 0, .bool false] (n * 2)) 196)) := by
  obtain ⟨i, hi, hzz⟩ := Option.map_eq_some_iff.1 infoW
  simp only [Prod.mk.injEq] at hzz
  obtain ⟨hz, hs, hb⟩ := hzz
  have := run_make (P := Tryz.prog) w 194 196 i _ Tryz.underlying194 hi hz .i64 .i64 n n (by omega) (Int.le_refl _) (by rw [hb]; omega) (by omega)
  rw [hs, Int.toNat_natCast] at this
  exact this
theorem run_make_rows (n : Nat) (hn : n ≤ 1048576) (w : World) : (Instr.makeSlice 65 (.int .i64 (n : Int)) (.int .i64 (n : Int))).run Tryz.prog w = .ok (.slice (some ⟨w.heap.size, 0, none⟩) n n) (w.alloc (.cells (madeCells #[.slice none 0 0] n) 194)) :=
  run_make_row' (P := Tryz.prog) 65 194 (.slice none 0 0) 24 Tryz.underlying65 infoR rfl .i64 .i64 n (by omega) (by omega) w
theorem PairBlk.ow {w : World} {B n : Nat} {off : Nat} {ws : List Wy} (h : PairBlk w B off n n ws) (hl : ws.length = n) (lo hi : Nat) (h1 : lo ≤ B) (h2 : B < hi) : OW w lo hi (some ⟨B, off, none⟩) ws B := fun _ =>
  ⟨off, rfl, h1, h2, h.lt, fun i hi => h.done i (by omega), h.free⟩

abbrev cch (s y l : Int) (v : Value) : Value := .agg #[.int .i64 s, .int .i64 y, .int .i64 l, v]
theorem cell_alloc_l {w : World} {p : Addr} {v : Value} (o : Obj) (h : w.cell? p = some v) : (w.alloc o).cell? p = some v := kept_cell ((Below.refl _ _).alloc (Nat.le_refl _) _) h
theorem eq_way (z : Int) (d : Bool) (w : World) : Calls Tryz.prog 255 #[.agg #[.int .i64 z, .bool d], .agg #[.int .i64 z, .bool d]] w fun e w' => e = .returned (.bool true) ∧ Below w.heap.size w w' := by
  cases d <;>
  · go_enter Tryz.func255, Tryz.ntmps255
    go_wp2
    go_ret
    exact ⟨rfl, ((Below.refl _ _).alloc (Nat.le_refl _) _).alloc (by simp) _⟩
theorem eq_shape (s y l : Int) (w : World) : Calls Tryz.prog 68 #[shp s y l, shp s y l] w fun e w' => e = .returned (.bool true) ∧ Below w.heap.size w w' := by
  go_enter Tryz.func68, Tryz.ntmps68
  go_wp2
  go_ret
  exact ⟨rfl, ((Below.refl _ _).alloc (Nat.le_refl _) _).alloc (by simp) _⟩
set_option maxHeartbeats 2000000 in
theorem eq_ways (a b : Option Addr) (ca cb : Nat) (ws : List Wy) (w : World) (ha : WSeg w a ws) (hb : WSeg w b ws) (hn : ws.length ≤ 1048576) :
    Calls Tryz.prog 217 #[.slice a ws.length ca, .slice b ws.length cb] w fun e w' => e = .returned (.bool true) ∧ Below w.heap.size w w' := by
  obtain ⟨n, Hn⟩ : ∃ n, Hid (n = ws.length) := ⟨_, rfl⟩
  have hn' : n ≤ 1048576 := by rw [Hn.out]; exact hn
  have HA : Hid _ := And.intro ha hb
  rw [← Hn.out]
  clear hn ha hb
  go_enter Tryz.func217, Tryz.ntmps217
  go_wp2
  go_loopw [5] (fun i wr => ∃ k : Nat, k ≤ n ∧ i = .int .i64 k ∧ Hid (Below w.heap.size w wr)) (fun i _ => n - (intOf i).toNat)
  case atStart => exact ⟨0, by omega, rfl, Below.refl _ _⟩
  case round =>
    obtain ⟨k, hk, rfl, HB⟩ := hrel
    by_cases hlt : k < n
    · have hlt' : (k : Int) < (n : Int) := by omega
      have hl : k < ws.length := by rw [← Hn.out]; exact hlt
      obtain ⟨b1, o1, rfl, hbl1, c1, d1⟩ := WSeg.at (w := w) HA.out.1 k hl
      obtain ⟨b2, o2, rfl, hbl2, c2, d2⟩ := WSeg.at (w := w) HA.out.2 k hl
      have hb := HB.out
      replace c1 := (hb.cell (p := ⟨b1, o1 + k * 2, none⟩) hbl1).trans c1
      replace d1 := (hb.cell (p := ⟨b1, o1 + k * 2 + 1, none⟩) hbl1).trans d1
      replace c2 := (hb.cell (p := ⟨b2, o2 + k * 2, none⟩) hbl2).trans c2
      replace d2 := (hb.cell (p := ⟨b2, o2 + k * 2 + 1, none⟩) hbl2).trans d2
      generalize ws.getD k wd = p at c1 d1 c2 d2
      obtain ⟨z, d⟩ := p
      simp only at c1 d1 c2 d2
      clear hl hbl1 hbl2 HB
      go_wp2
      go_region_held3 (fun w' => w'.cell? ⟨b1, o1 + k * 2, none⟩ = some (.int .i64 z) ∧ w'.cell? ⟨b1, o1 + k * 2 + 1, none⟩ = some (.bool d) ∧ w'.cell? ⟨b2, o2 + k * 2, none⟩ = some (.int .i64 z) ∧ w'.cell? ⟨b2, o2 + k * 2 + 1, none⟩ = some (.bool d)) (first | exact ⟨c1, d1, c2, d2⟩) (first | (go_at_call 255; refine Calls.mono (eq_way z d _) ?_; rintro u w9 ⟨rfl, hbb⟩; (first | replace hb := hb.trans (hbb.mono hb.size) | replace hb := hb.drew.trans (hbb.mono hb.drew.size)); replace c1 := kept_cell hbb c1; replace d1 := kept_cell hbb d1; replace c2 := kept_cell hbb c2; replace d2 := kept_cell hbb d2; clear hbb))
      go_wp2
      go_roundw
      case rel => exact ⟨k + 1, by omega, by go_num, hb⟩
      case measure => simp [intOf]; omega
    · go_wp2
      go_ret
      exact ⟨rfl, HB.out⟩
set_option maxHeartbeats 2000000 in
theorem eq_rows (a b : Option Addr) (ca cb n : Nat) (D : Nat → List Wy) (w : World) (ha : RSeg w a n D) (hb : RSeg w b n D) (hn : n ≤ 1048576) (ht : tot D n ≤ 1048576) :
    Calls Tryz.prog 161 #[.slice a n ca, .slice b n cb] w fun e w' => e = .returned (.bool true) ∧ Below w.heap.size w w' := by
  have HA : Hid _ := And.intro ha hb
  have HT : Hid _ := ht
  clear ha hb ht
  go_enter Tryz.func161, Tryz.ntmps161
  go_wp2
  go_loopw [5] (fun i wr => ∃ k : Nat, k ≤ n ∧ i = .int .i64 k ∧ Hid (Below w.heap.size w wr)) (fun i _ => n - (intOf i).toNat)
  case atStart => exact ⟨0, by omega, rfl, Below.refl _ _⟩
  case round =>
    obtain ⟨k, hk, rfl, HB⟩ := hrel
    by_cases hlt : k < n
    · have hlt' : (k : Int) < (n : Int) := by omega
      obtain ⟨b1, o1, a1, c1, rfl, hbl1, e1, s1⟩ := RSeg.at (w := w) HA.out.1 k hlt
      obtain ⟨b2, o2, a2, c2, rfl, hbl2, e2, s2⟩ := RSeg.at (w := w) HA.out.2 k hlt
      have hb := HB.out
      replace e1 := (hb.cell (p := ⟨b1, o1 + k, none⟩) hbl1).trans e1
      replace e2 := (hb.cell (p := ⟨b2, o2 + k, none⟩) hbl2).trans e2
      have HC : Hid (∀ X, Below w.heap.size w X → Calls Tryz.prog 217 #[.slice a1 (D k).length c1, .slice a2 (D k).length c2] X fun e w' => e = .returned (.bool true) ∧ Below X.heap.size X w') := fun X hX =>
        eq_ways a1 a2 c1 c2 (D k) X (s1.below hX) (s2.below hX) (Nat.le_trans (tot_row D hlt) HT.out)
      generalize (D k).length = len at e1 e2 HC
      clear hbl1 hbl2 HB s1 s2
      go_wp2
      go_region_held3 (fun w' => w'.cell? ⟨b1, o1 + k, none⟩ = some (.slice a1 len c1) ∧ w'.cell? ⟨b2, o2 + k, none⟩ = some (.slice a2 len c2)) (first | exact ⟨e1, e2⟩) (first | (go_at_call 217; refine Calls.mono (HC.out _ (by first | exact hb | exact hb.drew)) ?_; rintro u w9 ⟨rfl, hbb⟩; (first | replace hb := hb.trans (hbb.mono hb.size) | replace hb := hb.drew.trans (hbb.mono hb.drew.size)); replace e1 := kept_cell hbb e1; replace e2 := kept_cell hbb e2; clear hbb))
      go_wp2
      go_roundw
      case rel => exact ⟨k + 1, by omega, by go_num, hb⟩
      case measure => simp [intOf]; omega
    · go_wp2
      go_ret
      exact ⟨rfl, HB.out⟩
set_option maxHeartbeats 1000000 in
theorem eq_cache (s y l : Int) (a b : Option Addr) (ca cb n : Nat) (D : Nat → List Wy) (w : World) (ha : RSeg w a n D) (hb : RSeg w b n D) (hn : n ≤ 1048576) (ht : tot D n ≤ 1048576) :
    Calls Tryz.prog 77 #[cch s y l (.slice a n ca), cch s y l (.slice b n cb)] w fun e w' => e = .returned (.bool true) ∧ Below w.heap.size w w' := by
  have HA : Hid _ := And.intro ha hb
  clear ha hb
  go_enter Tryz.func77, Tryz.ntmps77
  go_wp2_with fail
  refine (eq_shape s y l _).mono ?_
  rintro u w1 ⟨rfl, hb1⟩
  have hb0 : Below w.heap.size w w1 := (((Below.refl _ w).alloc (Nat.le_refl _) _).alloc (by simp) _).trans (hb1.mono (by simp; omega))
  have c1 : w1.cell? ⟨w.heap.size, 3, none⟩ = some (.slice a n ca) := kept_cell hb1 (cell_alloc_l _ (new_cell w _ 67 3 _ rfl))
  have c2 : w1.cell? ⟨w.heap.size + 1, 3, none⟩ = some (.slice b n cb) := by
    have := new_cell (w.alloc (.cells #[.int .i64 s, .int .i64 y, .int .i64 l, .slice a n ca] 67)) #[.int .i64 s, .int .i64 y, .int .i64 l, .slice b n cb] 67 3 _ rfl
    rw [World.size_alloc] at this
    exact kept_cell hb1 this
  clear hb1
  go_wp2_with fail
  refine (eq_rows a b ca cb n D _ (RSeg.below HA.out.1 hb0) (RSeg.below HA.out.2 hb0) hn ht).mono ?_
  rintro u w2 ⟨rfl, hb2⟩
  have hb3 := hb0.trans (hb2.mono hb0.size)
  go_wp2
  go_ret
  exact ⟨rfl, hb3⟩

theorem to_way (z : Int) (d : Bool) (w : World) : Calls Tryz.prog 245 #[.agg #[.int .i64 z, .bool d]] w fun x w' => x = .returned (.agg #[.int .i64 z, .bool d]) ∧ Below w.heap.size w w' := by
  go_enter Tryz.func245, Tryz.ntmps245
  go_wp2
  exact bodyPost_ret (v := .agg #[.int .i64 z, .bool d]) (by simp [results, Tryz.results245, go_sem]) rfl ⟨rfl, (((Below.refl _ _).alloc (Nat.le_refl _) _).alloc (by simp) _).alloc (by simp; omega) _⟩
set_option maxHeartbeats 1000000 in
theorem to_ways (a : Option Addr) (cap n : Nat) (ws : List Wy) (w : World) (hs : WSeg w a ws) (hl : ws.length = n) (hn : n ≤ 1048576) :
    Calls Tryz.prog 201 #[.slice a n cap] w fun e w' => e = .returned (.slice (some ⟨w.heap.size, 0, none⟩) n n) ∧ Below w.heap.size w w' ∧ PairBlk w' w.heap.size 0 n n ws := by
  have hmk := run_make_pairs n hn
  have HS : Hid _ := And.intro hs hl
  clear hs hl
  go_enter Tryz.func201, Tryz.ntmps201
  go_wp2
  go_loopw [4] (fun i wr => ∃ k : Nat, k ≤ n ∧ i = .int .i64 k ∧ Hid (Below w.heap.size w wr ∧ PairBlk wr w.heap.size 0 n k ws)) (fun i _ => n - (intOf i).toNat)
  case atStart => exact ⟨0, by omega, rfl, (Below.refl _ _).alloc (Nat.le_refl _) _, PairBlk.made w n 196 ws⟩
  case round =>
    obtain ⟨k, hk, rfl, HB⟩ := hrel
    by_cases hlt : k < n
    · have hlt' : (k : Int) < (n : Int) := by omega
      obtain ⟨b1, o1, rfl, hbl1, c1, d1⟩ := WSeg.at (w := w) HS.out.1 k (by have := HS.out.2; omega)
      have hb := HB.out.1
      replace c1 := (hb.cell (p := ⟨b1, o1 + k * 2, none⟩) hbl1).trans c1
      replace d1 := (hb.cell (p := ⟨b1, o1 + k * 2 + 1, none⟩) hbl1).trans d1
      obtain ⟨p, HP⟩ : ∃ p, Hid (ws.getD k wd = p) := ⟨_, rfl⟩
      rw [HP.out] at c1 d1
      obtain ⟨z, d⟩ := p
      simp only at c1 d1
      clear hbl1
      go_wp2_with fail
      refine (to_way z d _).mono ?_
      rintro u w2 ⟨rfl, hbb⟩
      have hp2 := HB.out.2.below hbb
      have hb2 := hb.trans (hbb.mono hb.size)
      obtain ⟨⟨u1, hu1⟩, ⟨u2, hu2⟩⟩ := hp2.room k hlt
      have hf := hp2.free
      have HP3 := hp2.put hlt z d HP.out
      have HB3 : Hid (Below w.heap.size w ((w2.setCell ⟨w.heap.size, 0 + k * 2, none⟩ (.int .i64 z)).setCell ⟨w.heap.size, 0 + k * 2 + 1, none⟩ (.bool d)) ∧ PairBlk ((w2.setCell ⟨w.heap.size, 0 + k * 2, none⟩ (.int .i64 z)).setCell ⟨w.heap.size, 0 + k * 2 + 1, none⟩ (.bool d)) w.heap.size 0 n (k + 1) ws) :=
        ⟨(hb2.setCell (p := ⟨w.heap.size, 0 + k * 2, none⟩) (Nat.le_refl _) _).setCell (p := ⟨w.heap.size, 0 + k * 2 + 1, none⟩) (Nat.le_refl _) _, HP3⟩
      rw [Nat.zero_add] at hu1 hu2 HB3
      have hu3 : (w2.setCell ⟨w.heap.size, k * 2, none⟩ (.int .i64 z)).cell? ⟨w.heap.size, k * 2 + 1, none⟩ = some u2 := by rw [World.cell?_setCell_other _ _ _ _ (by simp)]; exact hu2
      clear hbb hp2 hb2 HP3 HB hb c1 d1
      go_wp2
      go_roundw
      case rel => exact ⟨k + 1, by omega, by go_num, HB3⟩
      case measure => simp [intOf]; omega
    · obtain rfl : k = n := by omega
      go_wp2
      go_ret
      exact ⟨rfl, HB.out.1, HB.out.2⟩
theorem Rsb.made (w : World) (n : Nat) (T : TypeId) (D : Nat → List Wy) : Rsb (w.alloc (.cells (madeCells #[.slice none 0 0] n) T)) w.heap.size (w.heap.size + 1) w.heap.size n 0 D := by
  refine ⟨by omega, by simp, Nat.le_refl _, fun j => by simp, fun i hi => ⟨_, (World.rowIs_made w (.slice none 0 0) n T).cell hi⟩, fun _ => none, fun _ => 0, fun _ => 0, ⟨fun i hi => absurd hi (by omega), fun i hi => absurd hi (by omega), fun i hi => absurd hi (by omega), fun i hi => absurd hi (by omega), fun i j hi => absurd hi (by omega)⟩⟩
set_option maxHeartbeats 1000000 in
theorem to_rows (a : Option Addr) (cap n : Nat) (D : Nat → List Wy) (w : World) (hs : RSeg w a n D) (hn : n ≤ 1048576) (ht : tot D n ≤ 1048576) :
    Calls Tryz.prog 132 #[.slice a n cap] w fun e w' => e = .returned (.slice (some ⟨w.heap.size, 0, none⟩) n n) ∧ Below w.heap.size w w' ∧ ORows w' w.heap.size w'.heap.size (some ⟨w.heap.size, 0, none⟩) n D := by
  have hmk := run_make_rows n hn
  have HS : Hid _ := And.intro hs ht
  clear hs ht
  go_enter Tryz.func132, Tryz.ntmps132
  go_wp2
  go_loopw [4] (fun i wr => ∃ k : Nat, k ≤ n ∧ i = .int .i64 k ∧ Hid (Below w.heap.size w wr ∧ ∃ m, Rsb wr w.heap.size m w.heap.size n k D)) (fun i _ => n - (intOf i).toNat)
  case atStart => exact ⟨0, by omega, rfl, (Below.refl _ _).alloc (Nat.le_refl _) _, _, Rsb.made w n 194 D⟩
  case round =>
    obtain ⟨k, hk, rfl, HB⟩ := hrel
    by_cases hlt : k < n
    · have hlt' : (k : Int) < (n : Int) := by omega
      obtain ⟨b1, o1, a1, cc, rfl, hbl1, e1, s1⟩ := RSeg.at (w := w) HS.out.1 k hlt
      obtain ⟨hb, m, hr⟩ := HB.out
      replace e1 := (hb.cell (p := ⟨b1, o1 + k, none⟩) hbl1).trans e1
      have HC : Hid (Calls Tryz.prog 201 #[.slice a1 (D k).length cc] wr fun e w' => e = .returned (.slice (some ⟨wr.heap.size, 0, none⟩) (D k).length (D k).length) ∧ Below wr.heap.size wr w' ∧ PairBlk w' wr.heap.size 0 (D k).length (D k).length (D k)) :=
        to_ways a1 cc (D k).length (D k) wr (s1.below hb) rfl (Nat.le_trans (tot_row D hlt) HS.out.2)
      obtain ⟨len, HL⟩ : ∃ len, Hid ((D k).length = len) := ⟨_, rfl⟩
      have hm := hr.mle
      rw [HL.out] at e1 HC
      clear hbl1 s1 HB
      go_wp2_with fail
      refine HC.out.mono ?_
      rintro u w2 ⟨rfl, hbb, hpb⟩
      have hr2 := hr.below hbb
      have hb2 := hb.trans (hbb.mono hb.size)
      obtain ⟨u1, hu1⟩ := hr2.room k hlt
      have hf := hr2.free
      have hsz := hbb.size
      have hr3 := hr2.put hlt (some ⟨wr.heap.size, 0, none⟩) len wr.heap.size w2.heap.size (fun _ => hm) (hpb.ow HL.out _ _ hb.size hpb.lt) (by rw [HL.out]; exact Nat.le_refl _) (by omega) (Nat.le_refl _)
      rw [HL.out] at hr3
      have HB3 : Hid (Below w.heap.size w (w2.setCell ⟨w.heap.size, k, none⟩ (.slice (some ⟨wr.heap.size, 0, none⟩) len len)) ∧ ∃ m, Rsb (w2.setCell ⟨w.heap.size, k, none⟩ (.slice (some ⟨wr.heap.size, 0, none⟩) len len)) w.heap.size m w.heap.size n (k + 1) D) :=
        ⟨hb2.setCell (p := ⟨w.heap.size, k, none⟩) (Nat.le_refl _) _, _, hr3⟩
      clear hbb hpb hr2 hb2 hr3 hr hb e1 hm hsz HC
      go_wp2
      go_roundw
      case rel => exact ⟨k + 1, by omega, by go_num, HB3⟩
      case measure => simp [intOf]; omega
    · obtain rfl : k = n := by omega
      go_wp2
      go_ret
      obtain ⟨hb, m, hr⟩ := HB.out
      exact ⟨rfl, hb, hr.rows'.wide (Nat.le_refl _) hr.mle⟩
set_option maxHeartbeats 1000000 in
theorem to_cache (s y l : Int) (a : Option Addr) (cap n : Nat) (D : Nat → List Wy) (w : World) (hs : RSeg w a n D) (hn : n ≤ 1048576) (ht : tot D n ≤ 1048576) :
    Calls Tryz.prog 57 #[cch s y l (.slice a n cap)] w fun e w' => ∃ a', e = .returned (cch s y l (.slice a' n n)) ∧ Below w.heap.size w w' ∧ ORows w' w.heap.size w'.heap.size a' n D := by
  have HS : Hid _ := hs
  clear hs
  go_enter Tryz.func57, Tryz.ntmps57
  go_wp2_with fail
  refine (to_shape s y l _).mono ?_
  rintro u w1 ⟨rfl, hb1⟩
  have B0 := ((Bk.new w #[.int .i64 s, .int .i64 y, .int .i64 l, .slice a n cap] 43 w.heap.size rfl).alloc (.cells #[.int .i64 0, .int .i64 0, .int .i64 0, .slice none 0 0] 67)).alloc (.cells #[.int .i64 0, .int .i64 0, .int .i64 0, .slice none 0 0] 67) |>.below hb1
  have B1 := (Bk.new (w.alloc (.cells #[.int .i64 s, .int .i64 y, .int .i64 l, .slice a n cap] 43)) #[.int .i64 0, .int .i64 0, .int .i64 0, .slice none 0 0] 67 (w.heap.size + 1) (by simp)).alloc (.cells #[.int .i64 0, .int .i64 0, .int .i64 0, .slice none 0 0] 67) |>.below hb1
  have B2 := (Bk.new ((w.alloc (.cells #[.int .i64 s, .int .i64 y, .int .i64 l, .slice a n cap] 43)).alloc (.cells #[.int .i64 0, .int .i64 0, .int .i64 0, .slice none 0 0] 67)) #[.int .i64 0, .int .i64 0, .int .i64 0, .slice none 0 0] 67 (w.heap.size + 1 + 1) (by simp)).below hb1
  have hbw : Below w.heap.size w w1 := (((Below.refl _ w).alloc (Nat.le_refl _) _).alloc (by simp) _).alloc (by simp; omega) _ |>.trans (hb1.mono (by simp; omega))
  have hsz1 : w.heap.size + 1 + 1 < w1.heap.size := B2.lt
  clear hb1
  have C0 := ((B0.other (w.heap.size + 1 + 1) 0 (.int .i64 s) (by omega)).other (w.heap.size + 1 + 1) 1 (.int .i64 y) (by omega)).other (w.heap.size + 1 + 1) 2 (.int .i64 l) (by omega)
  have C1 := ((B1.other (w.heap.size + 1 + 1) 0 (.int .i64 s) (by omega)).other (w.heap.size + 1 + 1) 1 (.int .i64 y) (by omega)).other (w.heap.size + 1 + 1) 2 (.int .i64 l) (by omega)
  have C2 := ((B2.set 0 (.int .i64 s) (by simp) rfl).set 1 (.int .i64 y) (by simp) rfl).set 2 (.int .i64 l) (by simp) rfl
  have hbw2 : Below w.heap.size w (((w1.setCell ⟨w.heap.size + 1 + 1, 0, none⟩ (.int .i64 s)).setCell ⟨w.heap.size + 1 + 1, 1, none⟩ (.int .i64 y)).setCell ⟨w.heap.size + 1 + 1, 2, none⟩ (.int .i64 l)) :=
    ((hbw.setCell (p := ⟨w.heap.size + 1 + 1, 0, none⟩) (by simp; omega) _).setCell (p := ⟨w.heap.size + 1 + 1, 1, none⟩) (by simp; omega) _).setCell (p := ⟨w.heap.size + 1 + 1, 2, none⟩) (by simp; omega) _
  have k0 := B2.cell 0 _ rfl
  have k1 := (B2.set 0 (.int .i64 s) (by simp) rfl).cell 1 _ rfl
  have k2 := ((B2.set 0 (.int .i64 s) (by simp) rfl).set 1 (.int .i64 y) (by simp) rfl).cell 2 _ rfl
  have kf := B2.free
  have kr := C0.cell 3 _ rfl
  have HK : Hid _ := And.intro C0 (And.intro C1 (And.intro C2 hbw2))
  clear B0 B1 B2 C0 C1 C2 hbw2 hbw
  go_wp2_with fail
  refine (to_rows a cap n D _ (RSeg.below HS.out HK.out.2.2.2) hn ht).mono ?_
  rintro u w2 ⟨rfl, hb2, hrows⟩
  obtain ⟨C0, C1, C2, hbw2⟩ := HK.out
  have hz : (((w1.setCell ⟨w.heap.size + 1 + 1, 0, none⟩ (.int .i64 s)).setCell ⟨w.heap.size + 1 + 1, 1, none⟩ (.int .i64 y)).setCell ⟨w.heap.size + 1 + 1, 2, none⟩ (.int .i64 l)).heap.size = w1.heap.size := by simp
  rw [hz] at hrows hb2
  have D1 := C1.below (hz ▸ hb2)
  have D2 := C2.below (hz ▸ hb2)
  have hbw3 := hbw2.trans (hb2.mono (by omega))
  have E2 := D2.set 3 (.slice (some ⟨w1.heap.size, 0, none⟩) n n) (by simp) rfl
  have E1 := D1.other (w.heap.size + 1 + 1) 3 (.slice (some ⟨w1.heap.size, 0, none⟩) n n) (by omega)
  have F1 := E1.set 0 (.int .i64 s) (by simp) rfl
  have F2 := F1.set 1 (.int .i64 y) (by simp) rfl
  have F3 := F2.set 2 (.int .i64 l) (by simp) rfl
  have F4 := F3.set 3 (.slice (some ⟨w1.heap.size, 0, none⟩) n n) (by simp) rfl
  have q3 := D2.cell 3 _ rfl
  have g2 := D2.free
  have g1 := D1.free
  have e0 := E2.cell 0 _ rfl
  have e1 := E2.cell 1 _ rfl
  have e2 := E2.cell 2 _ rfl
  have e3 := E2.cell 3 _ rfl
  have m0 := E1.cell 0 _ rfl
  have m1 := F1.cell 1 _ rfl
  have m2 := F2.cell 2 _ rfl
  have m3 := F3.cell 3 _ rfl
  have n0 := F4.cell 0 _ rfl
  have n1 := F4.cell 1 _ rfl
  have n2 := F4.cell 2 _ rfl
  have n3 := F4.cell 3 _ rfl
  have HZ : Hid _ := And.intro hrows hbw3
  simp only [hz]
  clear C0 C1 C2 hbw2 hb2 D1 D2 E1 E2 F1 F2 F3 F4 HK hrows hbw3 hz k0 k1 k2 kf kr
  go_wp2
  refine bodyPost_ret (v := cch s y l (.slice (some ⟨w1.heap.size, 0, none⟩) n n)) (by simp [results, Tryz.results57, go_sem, n0, n1, n2, n3]) rfl ⟨_, rfl, ?_, ?_⟩
  · exact ((((HZ.out.2.setCell (p := ⟨w.heap.size + 1 + 1, 3, none⟩) (by simp; omega) _).setCell (p := ⟨w.heap.size + 1, 0, none⟩) (by simp) _).setCell (p := ⟨w.heap.size + 1, 1, none⟩) (by simp) _).setCell (p := ⟨w.heap.size + 1, 2, none⟩) (by simp) _).setCell (p := ⟨w.heap.size + 1, 3, none⟩) (by simp) _
  · have hbt := (((((Betw.refl (w.heap.size + 1) (w.heap.size + 1 + 1 + 1) w2).setCell (p := ⟨w.heap.size + 1 + 1, 3, none⟩) (by simp) (by simp) (.slice (some ⟨w1.heap.size, 0, none⟩) n n)).setCell (p := ⟨w.heap.size + 1, 0, none⟩) (by simp) (by simp) (.int .i64 s)).setCell (p := ⟨w.heap.size + 1, 1, none⟩) (by simp) (by simp) (.int .i64 y)).setCell (p := ⟨w.heap.size + 1, 2, none⟩) (by simp) (by simp) (.int .i64 l)).setCell (p := ⟨w.heap.size + 1, 3, none⟩) (by simp) (by simp) (.slice (some ⟨w1.heap.size, 0, none⟩) n n)
    exact ((HZ.out.1.betw hbt (.inr (by omega))).wide (by omega) (by simp))

theorem sz_ways (a : Option Addr) (cap n L : Nat) (w : World) (hn : n ≤ 9223372036854775807) (hL : L ≤ 1048576) :
    Calls Tryz.prog 191 #[.slice a n cap, .int .i64 (L : Int)] w fun e w' => (∃ r : Int, e = .returned (.int .i64 r) ∧ (r < 0 ∨ (r = ((L - n : Nat) : Int) ∧ n ≤ L))) ∧ w' = w := by
  by_cases h : n ≤ L
  · obtain ⟨d, rfl⟩ : ∃ d, L = n + d := ⟨L - n, by omega⟩
    have hw : IntKind.i64.wrap (((n + d : Nat) : Int) - (n : Int)) = (d : Int) := by rw [show ((n + d : Nat) : Int) - (n : Int) = (d : Int) by omega, IntKind.wrap_i64]; omega
    have h0 : ¬ ((d : Int) < 0) := by omega
    go_enter Tryz.func191, Tryz.ntmps191
    go_wp2
    go_ret
    exact ⟨⟨_, rfl, by omega⟩, rfl⟩
  · have hw : IntKind.i64.wrap ((L : Int) - (n : Int)) = (L : Int) - (n : Int) := by rw [IntKind.wrap_i64]; omega
    have h0 : (L : Int) - (n : Int) < 0 := by omega
    go_enter Tryz.func191, Tryz.ntmps191
    go_wp2
    go_ret
    exact ⟨⟨_, rfl, .inl (by omega)⟩, rfl⟩
set_option maxHeartbeats 1000000 in
theorem sz_rows (a : Option Addr) (cap n L : Nat) (D : Nat → List Wy) (w : World) (hs : RSeg w a n D) (hn : n ≤ 9223372036854775807) (hD : ∀ i, i < n → (D i).length ≤ 9223372036854775807) (hL : L ≤ 1048576) :
    Calls Tryz.prog 117 #[.slice a n cap, .int .i64 (L : Int)] w fun e w' => (∃ r : Int, e = .returned (.int .i64 r) ∧ (r < 0 ∨ (0 ≤ r ∧ n ≤ L ∧ tot D n ≤ L))) ∧ w' = w := by
  have HS : Hid _ := And.intro hs hD
  clear hs hD
  by_cases h : n ≤ L
  rotate_left
  · have hw : IntKind.i64.wrap ((L : Int) - (n : Int)) = (L : Int) - (n : Int) := by rw [IntKind.wrap_i64]; omega
    have h0 : (L : Int) - (n : Int) < 0 := by omega
    go_enter Tryz.func117, Tryz.ntmps117
    go_wp2
    go_ret
    exact ⟨⟨_, rfl, .inl (by omega)⟩, rfl⟩
  obtain ⟨d, rfl⟩ : ∃ d, L = n + d := ⟨L - n, by omega⟩
  have hw : IntKind.i64.wrap (((n + d : Nat) : Int) - (n : Int)) = (d : Int) := by rw [show ((n + d : Nat) : Int) - (n : Int) = (d : Int) by omega, IntKind.wrap_i64]; omega
  have h0 : ¬ ((d : Int) < 0) := by omega
  go_enter Tryz.func117, Tryz.ntmps117
  go_wp2
  go_loopw [1, 5] (fun t i wr => ∃ k e : Nat, k ≤ n ∧ e ≤ d ∧ i = .int .i64 k ∧ t = .int .i64 (e : Int) ∧ wr = w ∧ Hid (e + tot D k = d)) (fun _ i _ => n - (intOf i).toNat)
  case atStart => exact ⟨0, d, by omega, Nat.le_refl _, rfl, congrArg _ (by omega), rfl, rfl⟩
  case round =>
    obtain ⟨k, e, hk, hed, rfl, rfl, rfl, HE⟩ := hrel
    clear hw h0
    by_cases hlt : k < n
    · have hlt' : (k : Int) < (n : Int) := by omega
      obtain ⟨b1, o1, a1, c1, rfl, hbl1, e1, s1⟩ := RSeg.at (w := wr) HS.out.1 k hlt
      have HC : Hid _ := sz_ways a1 c1 (D k).length e wr (HS.out.2 k hlt) (by omega)
      have HT : Hid (tot D (k + 1) = tot D k + (D k).length) := rfl
      generalize (D k).length = len at e1 HC HT
      clear hbl1 s1
      go_wp2_with fail
      refine Calls.mono HC.out ?_
      rintro u w2 ⟨⟨r, rfl, hr⟩, rfl⟩
      rcases hr with hr | ⟨hr, hle⟩
      · go_wp2
        go_ret
        exact ⟨⟨_, rfl, .inl (by omega)⟩, by first | rfl | trivial⟩
      · have hr0 : ¬ (r < 0) := by omega
        have HR : Hid (r = ((e - len : Nat) : Int)) := hr
        have HG : Hid (e - len + tot D (k + 1) = d) := by have h1 := HE.out; have h2 := HT.out; show _ = _; omega
        clear hr HE HT
        go_wp2
        go_roundw
        case rel => exact ⟨k + 1, e - len, by omega, by omega, by go_num, by rw [HR.out], trivial, HG⟩
        case measure => simp [intOf]; omega
    · obtain rfl : k = n := by omega
      go_wp2
      go_ret
      have := HE.out
      exact ⟨⟨_, rfl, .inr ⟨by omega, by omega, by omega⟩⟩, rfl⟩
set_option maxHeartbeats 1000000 in
theorem sz_cache2 (L : Nat) (hL : L ≤ 1048576) (s y l : Int) (a : Option Addr) (cap n : Nat) (D : Nat → List Wy) (w : World) (hs : RSeg w a n D) (hn : n ≤ 9223372036854775807) (hD : ∀ i, i < n → (D i).length ≤ 9223372036854775807) :
    Calls Tryz.prog 36 #[cch s y l (.slice a n cap), .int .i64 (L : Int)] w fun e w' => (∃ r : Int, e = .returned (.int .i64 r) ∧ (r < 0 ∨ (0 ≤ r ∧ n ≤ 1048576 ∧ tot D n ≤ 1048576))) ∧ Below w.heap.size w w' := by
  have HS : Hid _ := And.intro hs hD
  clear hs hD
  have hbw := (Below.refl _ w).alloc (Nat.le_refl _) (.cells #[.int .i64 s, .int .i64 y, .int .i64 l, .slice a n cap] 43)
  have HC : Hid _ := sz_rows a cap n L D _ (RSeg.below HS.out.1 hbw) hn HS.out.2 hL
  have HB : Hid _ := hbw
  clear hbw
  go_enter Tryz.func36, Tryz.ntmps36
  go_wp2_with fail
  refine Calls.mono HC.out ?_
  rintro u w2 ⟨⟨r, rfl, hr⟩, rfl⟩
  rcases hr with hr | ⟨hr, h1, h2⟩
  · go_wp2
    go_ret
    exact ⟨⟨_, rfl, .inl (by omega)⟩, HB.out⟩
  · have hr0 : ¬ (r < 0) := by omega
    go_wp2
    go_ret
    exact ⟨⟨_, rfl, .inr ⟨hr, by omega, by omega⟩⟩, HB.out⟩
end Cw
end Go.Proofs.YtknipnenipdgiaaGreatDoor
