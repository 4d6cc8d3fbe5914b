/-
  Two ways, rows, caches that read alike are told to be alike. Conditions: their lengths are at most 1048576.
-/
import Derived.Test.YtifgmgehnbkbjaaRows
import Derived.Test.YtifgmgehnbkbjaaShp
import Derived.Test.YtifgmgehnbkbjaaWys
import Derived.Deep.RegionHeld3
import Derived.Deep.QuietTactic
import Derived.BigQuiet
namespace Go.Proofs.Ytifgmgehnbkbjaa
open Go.ChangeShapes Go.WideShapes Go.ChangeAt Go.RowKit Go.Deep
set_option linter.unusedVariables false

abbrev cch (s y l : Int) (v : Value) : Value := .agg #[.int .i64 s, .int .i64 y, .int .i64 l, v]
theorem cell_alloc_l {w : World} {p : Addr} {v : Value} (o : Obj) (h : w.cell? p = some v) : (w.alloc o).cell? p = some v := kept_cell ((Below.refl _ _).alloc (Nat.le_refl _) _) h
theorem eq_way (z : Int) (d : Bool) (w : World) : Calls Try.prog 98 #[.agg #[.int .i64 z, .bool d], .agg #[.int .i64 z, .bool d]] w fun e w' => e = .returned (.bool true) ∧ Below w.heap.size w w' := by
  cases d <;>
  · go_enter Try.func98, Try.ntmps98
    go_wp2
    go_ret
    exact ⟨rfl, ((Below.refl _ _).alloc (Nat.le_refl _) _).alloc (by simp) _⟩
theorem eq_shape (s y l : Int) (w : World) : Calls Try.prog 65 #[shp s y l, shp s y l] w fun e w' => e = .returned (.bool true) ∧ Below w.heap.size w w' := by
  go_enter Try.func65, Try.ntmps65
  go_wp2
  go_ret
  exact ⟨rfl, ((Below.refl _ _).alloc (Nat.le_refl _) _).alloc (by simp) _⟩
set_option maxHeartbeats 2000000 in
theorem eq_ways (a b : Option Addr) (ca cb : Nat) (ws : List Wy) (w : World) (ha : WSeg w a ws) (hb : WSeg w b ws) (hn : ws.length ≤ 1048576) :
    Calls Try.prog 86 #[.slice a ws.length ca, .slice b ws.length cb] w fun e w' => e = .returned (.bool true) ∧ Below w.heap.size w w' := by
  obtain ⟨n, Hn⟩ : ∃ n, Hid (n = ws.length) := ⟨_, rfl⟩
  have hn' : n ≤ 1048576 := by rw [Hn.out]; exact hn
  have HA : Hid _ := And.intro ha hb
  rw [← Hn.out]
  clear hn ha hb
  go_enter Try.func86, Try.ntmps86
  go_wp2
  go_loopw [5] (fun i wr => ∃ k : Nat, k ≤ n ∧ i = .int .i64 k ∧ Hid (Below w.heap.size w wr)) (fun i _ => n - (intOf i).toNat)
  case atStart => exact ⟨0, by omega, rfl, Below.refl _ _⟩
  case round =>
    obtain ⟨k, hk, rfl, HB⟩ := hrel
    by_cases hlt : k < n
    · have hlt' : (k : Int) < (n : Int) := by omega
      have hl : k < ws.length := by rw [← Hn.out]; exact hlt
      obtain ⟨b1, o1, rfl, hbl1, c1, d1⟩ := WSeg.at (w := w) HA.out.1 k hl
      obtain ⟨b2, o2, rfl, hbl2, c2, d2⟩ := WSeg.at (w := w) HA.out.2 k hl
      have hb := HB.out
      replace c1 := (hb.cell (p := ⟨b1, o1 + k * 2, none⟩) hbl1).trans c1
      replace d1 := (hb.cell (p := ⟨b1, o1 + k * 2 + 1, none⟩) hbl1).trans d1
      replace c2 := (hb.cell (p := ⟨b2, o2 + k * 2, none⟩) hbl2).trans c2
      replace d2 := (hb.cell (p := ⟨b2, o2 + k * 2 + 1, none⟩) hbl2).trans d2
      generalize ws.getD k wd = p at c1 d1 c2 d2
      obtain ⟨z, d⟩ := p
      simp only at c1 d1 c2 d2
      clear hl hbl1 hbl2 HB
      go_wp2
      go_region_held3 (fun w' => w'.cell? ⟨b1, o1 + k * 2, none⟩ = some (.int .i64 z) ∧ w'.cell? ⟨b1, o1 + k * 2 + 1, none⟩ = some (.bool d) ∧ w'.cell? ⟨b2, o2 + k * 2, none⟩ = some (.int .i64 z) ∧ w'.cell? ⟨b2, o2 + k * 2 + 1, none⟩ = some (.bool d)) (first | exact ⟨c1, d1, c2, d2⟩) (first | (go_at_call 98; refine Calls.mono (eq_way z d _) ?_; rintro u w9 ⟨rfl, hbb⟩; (first | replace hb := hb.trans (hbb.mono hb.size) | replace hb := hb.drew.trans (hbb.mono hb.drew.size)); replace c1 := kept_cell hbb c1; replace d1 := kept_cell hbb d1; replace c2 := kept_cell hbb c2; replace d2 := kept_cell hbb d2; clear hbb))
      go_wp2
      go_roundw
      case rel => exact ⟨k + 1, by omega, by go_num, hb⟩
      case measure => simp [intOf]; omega
    · go_wp2
      go_ret
      exact ⟨rfl, HB.out⟩
set_option maxHeartbeats 2000000 in
theorem eq_rows (a b : Option Addr) (ca cb n : Nat) (D : Nat → List Wy) (w : World) (ha : RSeg w a n D) (hb : RSeg w b n D) (hn : n ≤ 1048576) (ht : tot D n ≤ 1048576) :
    Calls Try.prog 66 #[.slice a n ca, .slice b n cb] w fun e w' => e = .returned (.bool true) ∧ Below w.heap.size w w' := by
  have HA : Hid _ := And.intro ha hb
  have HT : Hid _ := ht
  clear ha hb ht
  go_enter Try.func66, Try.ntmps66
  go_wp2
  go_loopw [5] (fun i wr => ∃ k : Nat, k ≤ n ∧ i = .int .i64 k ∧ Hid (Below w.heap.size w wr)) (fun i _ => n - (intOf i).toNat)
  case atStart => exact ⟨0, by omega, rfl, Below.refl _ _⟩
  case round =>
    obtain ⟨k, hk, rfl, HB⟩ := hrel
    by_cases hlt : k < n
    · have hlt' : (k : Int) < (n : Int) := by omega
      obtain ⟨b1, o1, a1, c1, rfl, hbl1, e1, s1⟩ := RSeg.at (w := w) HA.out.1 k hlt
      obtain ⟨b2, o2, a2, c2, rfl, hbl2, e2, s2⟩ := RSeg.at (w := w) HA.out.2 k hlt
      have hb := HB.out
      replace e1 := (hb.cell (p := ⟨b1, o1 + k, none⟩) hbl1).trans e1
      replace e2 := (hb.cell (p := ⟨b2, o2 + k, none⟩) hbl2).trans e2
      have HC : Hid (∀ X, Below w.heap.size w X → Calls Try.prog 86 #[.slice a1 (D k).length c1, .slice a2 (D k).length c2] X fun e w' => e = .returned (.bool true) ∧ Below X.heap.size X w') := fun X hX =>
        eq_ways a1 a2 c1 c2 (D k) X (s1.below hX) (s2.below hX) (Nat.le_trans (tot_row D hlt) HT.out)
      generalize (D k).length = len at e1 e2 HC
      clear hbl1 hbl2 HB s1 s2
      go_wp2
      go_region_held3 (fun w' => w'.cell? ⟨b1, o1 + k, none⟩ = some (.slice a1 len c1) ∧ w'.cell? ⟨b2, o2 + k, none⟩ = some (.slice a2 len c2)) (first | exact ⟨e1, e2⟩) (first | (go_at_call 86; refine Calls.mono (HC.out _ (by first | exact hb | exact hb.drew)) ?_; rintro u w9 ⟨rfl, hbb⟩; (first | replace hb := hb.trans (hbb.mono hb.size) | replace hb := hb.drew.trans (hbb.mono hb.drew.size)); replace e1 := kept_cell hbb e1; replace e2 := kept_cell hbb e2; clear hbb))
      go_wp2
      go_roundw
      case rel => exact ⟨k + 1, by omega, by go_num, hb⟩
      case measure => simp [intOf]; omega
    · go_wp2
      go_ret
      exact ⟨rfl, HB.out⟩
set_option maxHeartbeats 1000000 in
theorem eq_cache (s y l : Int) (a b : Option Addr) (ca cb n : Nat) (D : Nat → List Wy) (w : World) (ha : RSeg w a n D) (hb : RSeg w b n D) (hn : n ≤ 1048576) (ht : tot D n ≤ 1048576) :
    Calls Try.prog 24 #[cch s y l (.slice a n ca), cch s y l (.slice b n cb)] w fun e w' => e = .returned (.bool true) ∧ Below w.heap.size w w' := by
  have HA : Hid _ := And.intro ha hb
  clear ha hb
  go_enter Try.func24, Try.ntmps24
  go_wp2_with fail
  refine (eq_shape s y l _).mono ?_
  rintro u w1 ⟨rfl, hb1⟩
  have hb0 : Below w.heap.size w w1 := (((Below.refl _ w).alloc (Nat.le_refl _) _).alloc (by simp) _).trans (hb1.mono (by simp; omega))
  have c1 : w1.cell? ⟨w.heap.size, 3, none⟩ = some (.slice a n ca) := kept_cell hb1 (cell_alloc_l _ (new_cell w _ 43 3 _ rfl))
  have c2 : w1.cell? ⟨w.heap.size + 1, 3, none⟩ = some (.slice b n cb) := by
    have := new_cell (w.alloc (.cells #[.int .i64 s, .int .i64 y, .int .i64 l, .slice a n ca] 43)) #[.int .i64 s, .int .i64 y, .int .i64 l, .slice b n cb] 43 3 _ rfl
    rw [World.size_alloc] at this
    exact kept_cell hb1 this
  clear hb1
  go_wp2_with fail
  refine (eq_rows a b ca cb n D _ (RSeg.below HA.out.1 hb0) (RSeg.below HA.out.2 hb0) hn ht).mono ?_
  rintro u w2 ⟨rfl, hb2⟩
  have hb3 := hb0.trans (hb2.mono hb0.size)
  go_wp2
  go_ret
  exact ⟨rfl, hb3⟩
end Go.Proofs.Ytifgmgehnbkbjaa
