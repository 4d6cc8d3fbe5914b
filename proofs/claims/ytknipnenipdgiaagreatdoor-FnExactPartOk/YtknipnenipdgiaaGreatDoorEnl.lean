
/-
  Lists of ends that send: how they lie, what the laws' helpers measure of them, whether two read alike. Conditions: lengths are at most 1048576 together.
-/
import Derived.Test.YtknipnenipdgiaaGreatDoorBas
import Derived.Test.YtknipnenipdgiaaGreatDoorProg
import Derived.Test.YtknipnenipdgiaaGreatDoorGrw
import Derived.Test.YtknipnenipdgiaaGreatDoorEns
namespace Go.Proofs.YtknipnenipdgiaaGreatDoor
open Go.ChangeShapes Go.WideShapes Go.ChangeAt Go.RowKit Go.Deep
set_option linter.unusedVariables false

/-- 'n' ends that send lie from 'a' on: how many words are held, and the words sent. -/
def OSeg (w : World) (a : Option Addr) (n : Nat) (H : Nat → Int) (D : Nat → List Int) : Prop :=
  0 < n → ∃ b off, a = some ⟨b, off, none⟩ ∧ b < w.heap.size ∧ ∀ i, i < n → ∃ ai ci, w.cell? ⟨b, off + i * 2, none⟩ = some (.int .i64 (H i)) ∧ w.cell? ⟨b, off + i * 2 + 1, none⟩ = some (.slice ai (D i).length ci) ∧ Seg .u32 w ai (D i) ∧ (D i).length ≤ ci
theorem OSeg.at {w : World} {a : Option Addr} {n : Nat} {H : Nat → Int} {D : Nat → List Int} (h : OSeg w a n H D) (i : Nat) (hi : i < n) :
    ∃ b off ai ci, a = some ⟨b, off, none⟩ ∧ b < w.heap.size ∧ w.cell? ⟨b, off + i * 2, none⟩ = some (.int .i64 (H i)) ∧ w.cell? ⟨b, off + i * 2 + 1, none⟩ = some (.slice ai (D i).length ci) ∧ Seg .u32 w ai (D i) := by
  obtain ⟨b, off, e, hlt, hc⟩ := h (by omega)
  obtain ⟨ai, ci, h1, h2, h3, _⟩ := hc i hi
  exact ⟨b, off, ai, ci, e, hlt, h1, h2, h3⟩
theorem OSeg.below {w w' : World} {a : Option Addr} {n : Nat} {H : Nat → Int} {D : Nat → List Int} (h : OSeg w a n H D) (hb : Below w.heap.size w w') : OSeg w' a n H D := fun h0 => by
  obtain ⟨b, off, e, hlt, hc⟩ := h h0
  refine ⟨b, off, e, Nat.lt_of_lt_of_le hlt hb.size, fun i hi => ?_⟩
  obtain ⟨ai, ci, h1, h2, h3, h4⟩ := hc i hi
  exact ⟨ai, ci, (hb.cell (p := ⟨b, off + i * 2, none⟩) hlt).trans h1, (hb.cell (p := ⟨b, off + i * 2 + 1, none⟩) hlt).trans h2, h3.below hb, h4⟩
set_option maxHeartbeats 2000000 in
theorem eq_outs (a b : Option Addr) (ca cb n : Nat) (H : Nat → Int) (D : Nat → List Int) (w : World) (ha : OSeg w a n H D) (hb : OSeg w b n H D) (hn : n ≤ 1048576) (ht : btot D n ≤ 1048576) :
    Calls Tryz.prog 79 #[.slice a n ca, .slice b n cb] w fun e w' => e = .returned (.bool true) ∧ Below w.heap.size w w' := by
  have HA : Hid _ := And.intro ha hb
  have HT : Hid _ := ht
  clear ha hb ht
  go_enter Tryz.func79, Tryz.ntmps79
  go_wp2
  go_loopw [5] (fun i wr => ∃ k : Nat, k ≤ n ∧ i = .int .i64 k ∧ Hid (Below w.heap.size w wr)) (fun i _ => n - (intOf i).toNat)
  case atStart => exact ⟨0, by omega, rfl, Below.refl _ _⟩
  case round =>
    obtain ⟨k, hk, rfl, HB⟩ := hrel
    by_cases hlt : k < n
    · have hlt' : (k : Int) < (n : Int) := by omega
      obtain ⟨b1, o1, a1, c1, rfl, hbl1, d1, e1, s1⟩ := OSeg.at (w := w) HA.out.1 k hlt
      obtain ⟨b2, o2, a2, c2, rfl, hbl2, d2, e2, s2⟩ := OSeg.at (w := w) HA.out.2 k hlt
      have hb := HB.out
      replace d1 := (hb.cell (p := ⟨b1, o1 + k * 2, none⟩) hbl1).trans d1
      replace e1 := (hb.cell (p := ⟨b1, o1 + k * 2 + 1, none⟩) hbl1).trans e1
      replace d2 := (hb.cell (p := ⟨b2, o2 + k * 2, none⟩) hbl2).trans d2
      replace e2 := (hb.cell (p := ⟨b2, o2 + k * 2 + 1, none⟩) hbl2).trans e2
      have HC : Hid (∀ X, Below w.heap.size w X → Calls Tryz.prog 162 #[.agg #[.int .i64 (H k), .slice a1 (D k).length c1], .agg #[.int .i64 (H k), .slice a2 (D k).length c2]] X fun e w' => e = .returned (.bool true) ∧ Below X.heap.size X w') := fun X hX =>
        eq_out (H k) a1 a2 c1 c2 (D k).length (D k) X (s1.below hX) (s2.below hX) rfl (Nat.le_trans (btot_row D hlt) HT.out)
      generalize (D k).length = len at e1 e2 HC
      generalize H k = z at d1 d2 HC
      clear hbl1 hbl2 HB s1 s2
      go_wp2
      go_region_held3 (fun w' => w'.cell? ⟨b1, o1 + k * 2, none⟩ = some (.int .i64 z) ∧ w'.cell? ⟨b1, o1 + k * 2 + 1, none⟩ = some (.slice a1 len c1) ∧ w'.cell? ⟨b2, o2 + k * 2, none⟩ = some (.int .i64 z) ∧ w'.cell? ⟨b2, o2 + k * 2 + 1, none⟩ = some (.slice a2 len c2)) (first | exact ⟨d1, e1, d2, e2⟩) (first | (go_at_call 162; refine Calls.mono (HC.out _ (by first | exact hb | exact hb.drew)) ?_; rintro u w9 ⟨rfl, hbb⟩; (first | replace hb := hb.trans (hbb.mono hb.size) | replace hb := hb.drew.trans (hbb.mono hb.drew.size)); replace d1 := kept_cell hbb d1; replace e1 := kept_cell hbb e1; replace d2 := kept_cell hbb d2; replace e2 := kept_cell hbb e2; clear hbb))
      go_wp2
      go_roundw
      case rel => exact ⟨k + 1, by omega, by go_num, hb⟩
      case measure => simp [intOf]; omega
    · go_wp2
      go_ret
      exact ⟨rfl, HB.out⟩
set_option maxHeartbeats 1000000 in
theorem sz_outs (a : Option Addr) (cap n L : Nat) (H : Nat → Int) (D : Nat → List Int) (w : World) (hs : OSeg w a n H D) (hn : n ≤ 9223372036854775807) (hD : ∀ i, i < n → (D i).length ≤ 9223372036854775807) (hL : L ≤ 1048576) :
    Calls Tryz.prog 38 #[.slice a n cap, .int .i64 (L : Int)] w fun e w' => (∃ r : Int, e = .returned (.int .i64 r) ∧ (r < 0 ∨ (r = ((L - n - btot D n : Nat) : Int) ∧ n + btot D n ≤ L))) ∧ Below w.heap.size w w' := by
  have HS : Hid _ := And.intro hs hD
  clear hs hD
  by_cases h : n ≤ L
  rotate_left
  · have hw : IntKind.i64.wrap ((L : Int) - (n : Int)) = (L : Int) - (n : Int) := by rw [IntKind.wrap_i64]; omega
    have h0 : (L : Int) - (n : Int) < 0 := by omega
    go_enter Tryz.func38, Tryz.ntmps38
    go_wp2
    go_ret
    exact ⟨⟨_, rfl, .inl (by omega)⟩, Below.refl _ _⟩
  obtain ⟨d, rfl⟩ : ∃ d, L = n + d := ⟨L - n, by omega⟩
  have hw : IntKind.i64.wrap (((n + d : Nat) : Int) - (n : Int)) = (d : Int) := by rw [show ((n + d : Nat) : Int) - (n : Int) = (d : Int) by omega, IntKind.wrap_i64]; omega
  have h0 : ¬ ((d : Int) < 0) := by omega
  go_enter Tryz.func38, Tryz.ntmps38
  go_wp2
  go_loopw [1, 5] (fun t i wr => ∃ k e : Nat, k ≤ n ∧ e ≤ d ∧ i = .int .i64 k ∧ t = .int .i64 (e : Int) ∧ Hid (Below w.heap.size w wr ∧ e + btot D k = d)) (fun _ i _ => n - (intOf i).toNat)
  case atStart => exact ⟨0, d, by omega, Nat.le_refl _, rfl, congrArg _ (by omega), Below.refl _ _, rfl⟩
  case round =>
    obtain ⟨k, e, hk, hed, rfl, rfl, HE⟩ := hrel
    clear hw h0
    by_cases hlt : k < n
    · have hlt' : (k : Int) < (n : Int) := by omega
      obtain ⟨b1, o1, a1, c1, rfl, hbl1, d1, e1, s1⟩ := OSeg.at (w := w) HS.out.1 k hlt
      have hb := HE.out.1
      replace d1 := (hb.cell (p := ⟨b1, o1 + k * 2, none⟩) hbl1).trans d1
      replace e1 := (hb.cell (p := ⟨b1, o1 + k * 2 + 1, none⟩) hbl1).trans e1
      have HC : Hid (∀ X, _) := fun X => sz_out (H k) a1 c1 (D k).length e X (HS.out.2 k hlt) (by omega)
      have HT : Hid (btot D (k + 1) = btot D k + (D k).length) := rfl
      generalize (D k).length = len at e1 HC HT
      generalize H k = z at d1 HC
      clear hbl1 s1 hb
      go_wp2_with fail
      refine Calls.mono (HC.out _) ?_
      rintro u w2 ⟨⟨r, rfl, hr⟩, hb2⟩
      have HB2 : Hid (Below w.heap.size w w2) := by have hb := HE.out.1; first | exact hb.trans (hb2.mono hb.size) | exact hb.drew.trans (hb2.mono hb.drew.size)
      clear hb2
      rcases hr with hr | ⟨hr, hle⟩
      · go_wp2
        go_ret
        exact ⟨⟨_, rfl, .inl (by omega)⟩, HB2.out⟩
      · have hr0 : ¬ (r < 0) := by omega
        have HR : Hid (r = ((e - len : Nat) : Int)) := hr
        have HG : Hid (Below w.heap.size w w2 ∧ e - len + btot D (k + 1) = d) := by have h1 := HE.out.2; have h2 := HT.out; exact ⟨HB2.out, by omega⟩
        clear hr HE HT HB2 HC
        go_wp2
        go_roundw
        case rel => exact ⟨k + 1, e - len, by omega, by omega, by go_num, by rw [HR.out], HG⟩
        case measure => simp [intOf]; omega
    · obtain rfl : k = n := by omega
      go_wp2
      go_ret
      have := HE.out.2
      exact ⟨⟨_, rfl, .inr ⟨by omega, by omega⟩⟩, HE.out.1⟩
/-- 'n' ends that receive lie from 'a' on: the words that are ready. -/
def ISeg (w : World) (a : Option Addr) (n : Nat) (D : Nat → List Int) : Prop :=
  0 < n → ∃ b off, a = some ⟨b, off, none⟩ ∧ b < w.heap.size ∧ ∀ i, i < n → ∃ ai ci, w.cell? ⟨b, off + i, none⟩ = some (.slice ai (D i).length ci) ∧ Seg .u32 w ai (D i) ∧ (D i).length ≤ ci
theorem ISeg.at {w : World} {a : Option Addr} {n : Nat} {D : Nat → List Int} (h : ISeg w a n D) (i : Nat) (hi : i < n) :
    ∃ b off ai ci, a = some ⟨b, off, none⟩ ∧ b < w.heap.size ∧ w.cell? ⟨b, off + i, none⟩ = some (.slice ai (D i).length ci) ∧ Seg .u32 w ai (D i) := by
  obtain ⟨b, off, e, hlt, hc⟩ := h (by omega)
  obtain ⟨ai, ci, h2, h3, _⟩ := hc i hi
  exact ⟨b, off, ai, ci, e, hlt, h2, h3⟩
theorem ISeg.below {w w' : World} {a : Option Addr} {n : Nat} {D : Nat → List Int} (h : ISeg w a n D) (hb : Below w.heap.size w w') : ISeg w' a n D := fun h0 => by
  obtain ⟨b, off, e, hlt, hc⟩ := h h0
  refine ⟨b, off, e, Nat.lt_of_lt_of_le hlt hb.size, fun i hi => ?_⟩
  obtain ⟨ai, ci, h2, h3, h4⟩ := hc i hi
  exact ⟨ai, ci, (hb.cell (p := ⟨b, off + i, none⟩) hlt).trans h2, h3.below hb, h4⟩
set_option maxHeartbeats 2000000 in
theorem eq_ins (a b : Option Addr) (ca cb n : Nat) (D : Nat → List Int) (w : World) (ha : ISeg w a n D) (hb : ISeg w b n D) (hn : n ≤ 1048576) (ht : btot D n ≤ 1048576) :
    Calls Tryz.prog 80 #[.slice a n ca, .slice b n cb] w fun e w' => e = .returned (.bool true) ∧ Below w.heap.size w w' := by
  have HA : Hid _ := And.intro ha hb
  have HT : Hid _ := ht
  clear ha hb ht
  go_enter Tryz.func80, Tryz.ntmps80
  go_wp2
  go_loopw [5] (fun i wr => ∃ k : Nat, k ≤ n ∧ i = .int .i64 k ∧ Hid (Below w.heap.size w wr)) (fun i _ => n - (intOf i).toNat)
  case atStart => exact ⟨0, by omega, rfl, Below.refl _ _⟩
  case round =>
    obtain ⟨k, hk, rfl, HB⟩ := hrel
    by_cases hlt : k < n
    · have hlt' : (k : Int) < (n : Int) := by omega
      obtain ⟨b1, o1, a1, c1, rfl, hbl1, e1, s1⟩ := ISeg.at (w := w) HA.out.1 k hlt
      obtain ⟨b2, o2, a2, c2, rfl, hbl2, e2, s2⟩ := ISeg.at (w := w) HA.out.2 k hlt
      have hb := HB.out
      replace e1 := (hb.cell (p := ⟨b1, o1 + k, none⟩) hbl1).trans e1
      replace e2 := (hb.cell (p := ⟨b2, o2 + k, none⟩) hbl2).trans e2
      have HC : Hid (∀ X, Below w.heap.size w X → Calls Tryz.prog 163 #[.agg #[.slice a1 (D k).length c1], .agg #[.slice a2 (D k).length c2]] X fun e w' => e = .returned (.bool true) ∧ Below X.heap.size X w') := fun X hX =>
        eq_in a1 a2 c1 c2 (D k).length (D k) X (s1.below hX) (s2.below hX) rfl (Nat.le_trans (btot_row D hlt) HT.out)
      generalize (D k).length = len at e1 e2 HC
      clear hbl1 hbl2 HB s1 s2
      go_wp2
      go_region_held3 (fun w' => w'.cell? ⟨b1, o1 + k, none⟩ = some (.slice a1 len c1) ∧ w'.cell? ⟨b2, o2 + k, none⟩ = some (.slice a2 len c2)) (first | exact ⟨e1, e2⟩) (first | (go_at_call 163; refine Calls.mono (HC.out _ (by first | exact hb | exact hb.drew)) ?_; rintro u w9 ⟨rfl, hbb⟩; (first | replace hb := hb.trans (hbb.mono hb.size) | replace hb := hb.drew.trans (hbb.mono hb.drew.size)); replace e1 := kept_cell hbb e1; replace e2 := kept_cell hbb e2; clear hbb))
      go_wp2
      go_roundw
      case rel => exact ⟨k + 1, by omega, by go_num, hb⟩
      case measure => simp [intOf]; omega
    · go_wp2
      go_ret
      exact ⟨rfl, HB.out⟩
set_option maxHeartbeats 1000000 in
theorem sz_ins (a : Option Addr) (cap n L : Nat) (D : Nat → List Int) (w : World) (hs : ISeg w a n D) (hn : n ≤ 9223372036854775807) (hD : ∀ i, i < n → (D i).length ≤ 9223372036854775807) (hL : L ≤ 1048576) :
    Calls Tryz.prog 39 #[.slice a n cap, .int .i64 (L : Int)] w fun e w' => (∃ r : Int, e = .returned (.int .i64 r) ∧ (r < 0 ∨ (r = ((L - n - btot D n : Nat) : Int) ∧ n + btot D n ≤ L))) ∧ Below w.heap.size w w' := by
  have HS : Hid _ := And.intro hs hD
  clear hs hD
  by_cases h : n ≤ L
  rotate_left
  · have hw : IntKind.i64.wrap ((L : Int) - (n : Int)) = (L : Int) - (n : Int) := by rw [IntKind.wrap_i64]; omega
    have h0 : (L : Int) - (n : Int) < 0 := by omega
    go_enter Tryz.func39, Tryz.ntmps39
    go_wp2
    go_ret
    exact ⟨⟨_, rfl, .inl (by omega)⟩, Below.refl _ _⟩
  obtain ⟨d, rfl⟩ : ∃ d, L = n + d := ⟨L - n, by omega⟩
  have hw : IntKind.i64.wrap (((n + d : Nat) : Int) - (n : Int)) = (d : Int) := by rw [show ((n + d : Nat) : Int) - (n : Int) = (d : Int) by omega, IntKind.wrap_i64]; omega
  have h0 : ¬ ((d : Int) < 0) := by omega
  go_enter Tryz.func39, Tryz.ntmps39
  go_wp2
  go_loopw [1, 5] (fun t i wr => ∃ k e : Nat, k ≤ n ∧ e ≤ d ∧ i = .int .i64 k ∧ t = .int .i64 (e : Int) ∧ Hid (Below w.heap.size w wr ∧ e + btot D k = d)) (fun _ i _ => n - (intOf i).toNat)
  case atStart => exact ⟨0, d, by omega, Nat.le_refl _, rfl, congrArg _ (by omega), Below.refl _ _, rfl⟩
  case round =>
    obtain ⟨k, e, hk, hed, rfl, rfl, HE⟩ := hrel
    clear hw h0
    by_cases hlt : k < n
    · have hlt' : (k : Int) < (n : Int) := by omega
      obtain ⟨b1, o1, a1, c1, rfl, hbl1, e1, s1⟩ := ISeg.at (w := w) HS.out.1 k hlt
      have hb := HE.out.1
      replace e1 := (hb.cell (p := ⟨b1, o1 + k, none⟩) hbl1).trans e1
      have HC : Hid (∀ X, _) := fun X => sz_in a1 c1 (D k).length e X (HS.out.2 k hlt) (by omega)
      have HT : Hid (btot D (k + 1) = btot D k + (D k).length) := rfl
      generalize (D k).length = len at e1 HC HT
      clear hbl1 s1 hb
      go_wp2_with fail
      refine Calls.mono (HC.out _) ?_
      rintro u w2 ⟨⟨r, rfl, hr⟩, hb2⟩
      have HB2 : Hid (Below w.heap.size w w2) := by have hb := HE.out.1; first | exact hb.trans (hb2.mono hb.size) | exact hb.drew.trans (hb2.mono hb.drew.size)
      clear hb2
      rcases hr with hr | ⟨hr, hle⟩
      · go_wp2
        go_ret
        exact ⟨⟨_, rfl, .inl (by omega)⟩, HB2.out⟩
      · have hr0 : ¬ (r < 0) := by omega
        have HR : Hid (r = ((e - len : Nat) : Int)) := hr
        have HG : Hid (Below w.heap.size w w2 ∧ e - len + btot D (k + 1) = d) := by have h1 := HE.out.2; have h2 := HT.out; exact ⟨HB2.out, by omega⟩
        clear hr HE HT HB2 HC
        go_wp2
        go_roundw
        case rel => exact ⟨k + 1, e - len, by omega, by omega, by go_num, by rw [HR.out], HG⟩
        case measure => simp [intOf]; omega
    · obtain rfl : k = n := by omega
      go_wp2
      go_ret
      have := HE.out.2
      exact ⟨⟨_, rfl, .inr ⟨by omega, by omega⟩⟩, HE.out.1⟩
/-- 'n' states of devices lie from 'a' on: the words latched, and the words seen. -/
def VSeg (w : World) (a : Option Addr) (n : Nat) (D E : Nat → List Int) : Prop :=
  0 < n → ∃ b off, a = some ⟨b, off, none⟩ ∧ b < w.heap.size ∧ ∀ i, i < n → ∃ ai ci bi di, w.cell? ⟨b, off + i * 2, none⟩ = some (.slice ai (D i).length ci) ∧ w.cell? ⟨b, off + i * 2 + 1, none⟩ = some (.slice bi (E i).length di) ∧ Seg .u32 w ai (D i) ∧ Seg .u32 w bi (E i) ∧ (D i).length ≤ ci ∧ (E i).length ≤ di
theorem VSeg.at {w : World} {a : Option Addr} {n : Nat} {D E : Nat → List Int} (h : VSeg w a n D E) (i : Nat) (hi : i < n) :
    ∃ b off ai ci bi di, a = some ⟨b, off, none⟩ ∧ b < w.heap.size ∧ w.cell? ⟨b, off + i * 2, none⟩ = some (.slice ai (D i).length ci) ∧ w.cell? ⟨b, off + i * 2 + 1, none⟩ = some (.slice bi (E i).length di) ∧ Seg .u32 w ai (D i) ∧ Seg .u32 w bi (E i) := by
  obtain ⟨b, off, e, hlt, hc⟩ := h (by omega)
  obtain ⟨ai, ci, bi, di, h1, h2, h3, h4, _⟩ := hc i hi
  exact ⟨b, off, ai, ci, bi, di, e, hlt, h1, h2, h3, h4⟩
theorem VSeg.below {w w' : World} {a : Option Addr} {n : Nat} {D E : Nat → List Int} (h : VSeg w a n D E) (hb : Below w.heap.size w w') : VSeg w' a n D E := fun h0 => by
  obtain ⟨b, off, e, hlt, hc⟩ := h h0
  refine ⟨b, off, e, Nat.lt_of_lt_of_le hlt hb.size, fun i hi => ?_⟩
  obtain ⟨ai, ci, bi, di, h1, h2, h3, h4, h5⟩ := hc i hi
  exact ⟨ai, ci, bi, di, (hb.cell (p := ⟨b, off + i * 2, none⟩) hlt).trans h1, (hb.cell (p := ⟨b, off + i * 2 + 1, none⟩) hlt).trans h2, h3.below hb, h4.below hb, h5⟩
set_option maxHeartbeats 2000000 in
theorem eq_devs (a b : Option Addr) (ca cb n : Nat) (D E : Nat → List Int) (w : World) (ha : VSeg w a n D E) (hb : VSeg w b n D E) (hn : n ≤ 1048576) (ht : btot D n + btot E n ≤ 1048576) :
    Calls Tryz.prog 81 #[.slice a n ca, .slice b n cb] w fun e w' => e = .returned (.bool true) ∧ Below w.heap.size w w' := by
  have HA : Hid _ := And.intro ha hb
  have HT : Hid _ := ht
  clear ha hb ht
  go_enter Tryz.func81, Tryz.ntmps81
  go_wp2
  go_loopw [5] (fun i wr => ∃ k : Nat, k ≤ n ∧ i = .int .i64 k ∧ Hid (Below w.heap.size w wr)) (fun i _ => n - (intOf i).toNat)
  case atStart => exact ⟨0, by omega, rfl, Below.refl _ _⟩
  case round =>
    obtain ⟨k, hk, rfl, HB⟩ := hrel
    by_cases hlt : k < n
    · have hlt' : (k : Int) < (n : Int) := by omega
      obtain ⟨b1, o1, a1, c1, f1, g1, rfl, hbl1, d1, e1, s1, t1⟩ := VSeg.at (w := w) HA.out.1 k hlt
      obtain ⟨b2, o2, a2, c2, f2, g2, rfl, hbl2, d2, e2, s2, t2⟩ := VSeg.at (w := w) HA.out.2 k hlt
      have hb := HB.out
      replace d1 := (hb.cell (p := ⟨b1, o1 + k * 2, none⟩) hbl1).trans d1
      replace e1 := (hb.cell (p := ⟨b1, o1 + k * 2 + 1, none⟩) hbl1).trans e1
      replace d2 := (hb.cell (p := ⟨b2, o2 + k * 2, none⟩) hbl2).trans d2
      replace e2 := (hb.cell (p := ⟨b2, o2 + k * 2 + 1, none⟩) hbl2).trans e2
      have HC : Hid (∀ X, Below w.heap.size w X → Calls Tryz.prog 164 #[.agg #[.slice a1 (D k).length c1, .slice f1 (E k).length g1], .agg #[.slice a2 (D k).length c2, .slice f2 (E k).length g2]] X fun e w' => e = .returned (.bool true) ∧ Below X.heap.size X w') := fun X hX =>
        eq_dev a1 a2 f1 f2 c1 c2 g1 g2 (D k).length (E k).length (D k) (E k) X (s1.below hX) (s2.below hX) (t1.below hX) (t2.below hX) rfl (by have h1 := btot_row D hlt; have h2 : btot D n + btot E n ≤ 1048576 := HT.out; omega) rfl (by have h1 := btot_row E hlt; have h2 : btot D n + btot E n ≤ 1048576 := HT.out; omega)
      generalize (D k).length = len at d1 d2 HC
      generalize (E k).length = ken at e1 e2 HC
      clear hbl1 hbl2 HB s1 s2 t1 t2
      go_wp2
      go_region_held3 (fun w' => w'.cell? ⟨b1, o1 + k * 2, none⟩ = some (.slice a1 len c1) ∧ w'.cell? ⟨b1, o1 + k * 2 + 1, none⟩ = some (.slice f1 ken g1) ∧ w'.cell? ⟨b2, o2 + k * 2, none⟩ = some (.slice a2 len c2) ∧ w'.cell? ⟨b2, o2 + k * 2 + 1, none⟩ = some (.slice f2 ken g2)) (first | exact ⟨d1, e1, d2, e2⟩) (first | (go_at_call 164; refine Calls.mono (HC.out _ (by first | exact hb | exact hb.drew)) ?_; rintro u w9 ⟨rfl, hbb⟩; (first | replace hb := hb.trans (hbb.mono hb.size) | replace hb := hb.drew.trans (hbb.mono hb.drew.size)); replace d1 := kept_cell hbb d1; replace e1 := kept_cell hbb e1; replace d2 := kept_cell hbb d2; replace e2 := kept_cell hbb e2; clear hbb))
      go_wp2
      go_roundw
      case rel => exact ⟨k + 1, by omega, by go_num, hb⟩
      case measure => simp [intOf]; omega
    · go_wp2
      go_ret
      exact ⟨rfl, HB.out⟩
set_option maxHeartbeats 1000000 in
theorem sz_devs (a : Option Addr) (cap n L : Nat) (D E : Nat → List Int) (w : World) (hs : VSeg w a n D E) (hn : n ≤ 9223372036854775807) (hD : ∀ i, i < n → (D i).length ≤ 9223372036854775807) (hE : ∀ i, i < n → (E i).length ≤ 9223372036854775807) (hL : L ≤ 1048576) :
    Calls Tryz.prog 40 #[.slice a n cap, .int .i64 (L : Int)] w fun e w' => (∃ r : Int, e = .returned (.int .i64 r) ∧ (r < 0 ∨ (r = ((L - n - btot D n - btot E n : Nat) : Int) ∧ n + btot D n + btot E n ≤ L))) ∧ Below w.heap.size w w' := by
  have HS : Hid _ := And.intro hs (And.intro hD hE)
  clear hs hD hE
  by_cases h : n ≤ L
  rotate_left
  · have hw : IntKind.i64.wrap ((L : Int) - (n : Int)) = (L : Int) - (n : Int) := by rw [IntKind.wrap_i64]; omega
    have h0 : (L : Int) - (n : Int) < 0 := by omega
    go_enter Tryz.func40, Tryz.ntmps40
    go_wp2
    go_ret
    exact ⟨⟨_, rfl, .inl (by omega)⟩, Below.refl _ _⟩
  obtain ⟨d, rfl⟩ : ∃ d, L = n + d := ⟨L - n, by omega⟩
  have hw : IntKind.i64.wrap (((n + d : Nat) : Int) - (n : Int)) = (d : Int) := by rw [show ((n + d : Nat) : Int) - (n : Int) = (d : Int) by omega, IntKind.wrap_i64]; omega
  have h0 : ¬ ((d : Int) < 0) := by omega
  go_enter Tryz.func40, Tryz.ntmps40
  go_wp2
  go_loopw [1, 5] (fun t i wr => ∃ k e : Nat, k ≤ n ∧ e ≤ d ∧ i = .int .i64 k ∧ t = .int .i64 (e : Int) ∧ Hid (Below w.heap.size w wr ∧ e + btot D k + btot E k = d)) (fun _ i _ => n - (intOf i).toNat)
  case atStart => exact ⟨0, d, by omega, Nat.le_refl _, rfl, congrArg _ (by omega), Below.refl _ _, rfl⟩
  case round =>
    obtain ⟨k, e, hk, hed, rfl, rfl, HE⟩ := hrel
    clear hw h0
    by_cases hlt : k < n
    · have hlt' : (k : Int) < (n : Int) := by omega
      obtain ⟨b1, o1, a1, c1, f1, g1, rfl, hbl1, d1, e1, s1, t1⟩ := VSeg.at (w := w) HS.out.1 k hlt
      have hb := HE.out.1
      replace d1 := (hb.cell (p := ⟨b1, o1 + k * 2, none⟩) hbl1).trans d1
      replace e1 := (hb.cell (p := ⟨b1, o1 + k * 2 + 1, none⟩) hbl1).trans e1
      have HC : Hid (∀ X, _) := fun X => sz_dev a1 f1 c1 (D k).length g1 (E k).length e X (HS.out.2.1 k hlt) (HS.out.2.2 k hlt) (by omega)
      have HT : Hid (btot D (k + 1) = btot D k + (D k).length ∧ btot E (k + 1) = btot E k + (E k).length) := ⟨rfl, rfl⟩
      generalize (D k).length = len at d1 HC HT
      generalize (E k).length = ken at e1 HC HT
      clear hbl1 s1 t1 hb
      go_wp2_with fail
      refine Calls.mono (HC.out _) ?_
      rintro u w2 ⟨⟨r, rfl, hr⟩, hb2⟩
      have HB2 : Hid (Below w.heap.size w w2) := by have hb := HE.out.1; first | exact hb.trans (hb2.mono hb.size) | exact hb.drew.trans (hb2.mono hb.drew.size)
      clear hb2
      rcases hr with hr | ⟨hr, hle⟩
      · go_wp2
        go_ret
        exact ⟨⟨_, rfl, .inl (by omega)⟩, HB2.out⟩
      · have hr0 : ¬ (r < 0) := by omega
        have HR : Hid (r = ((e - len - ken : Nat) : Int)) := hr
        have HG : Hid (Below w.heap.size w w2 ∧ e - len - ken + btot D (k + 1) + btot E (k + 1) = d) := by have h1 := HE.out.2; obtain ⟨h2, h3⟩ := HT.out; exact ⟨HB2.out, by omega⟩
        clear hr HE HT HB2 HC
        go_wp2
        go_roundw
        case rel => exact ⟨k + 1, e - len - ken, by omega, by omega, by go_num, by rw [HR.out], HG⟩
        case measure => simp [intOf]; omega
    · obtain rfl : k = n := by omega
      go_wp2
      go_ret
      have := HE.out.2
      exact ⟨⟨_, rfl, .inr ⟨by omega, by omega⟩⟩, HE.out.1⟩
end Go.Proofs.YtknipnenipdgiaaGreatDoor
