
/-
  Lists of images in memory: their measure, their copies, whether two read alike, how one that came in is read. Conditions: lengths are at most 1048576 where a copy is made.
-/
import Derived.Test.YtgmhcngdgfhhaaaGreatDoorBas
import Derived.Test.YtgmhcngdgfhhaaaGreatDoorProg
import Derived.Test.YtgmhcngdgfhhaaaGreatDoorGrw
namespace Go.Proofs.YtgmhcngdgfhhaaaGreatDoor
open Go.ChangeShapes Go.WideShapes Go.ChangeAt Go.RowKit Go.Deep
set_option linter.unusedVariables false

/-- A slice that begins at 'a' reads as 'n' images, image i of 'N i' rows. -/
def MSeg (w : World) (a : Option Addr) (n : Nat) (N : Nat → Nat) (D : Nat → Nat → List Int) : Prop :=
  0 < n → ∃ b off, a = some ⟨b, off, none⟩ ∧ b < w.heap.size ∧ ∀ i, i < n → ∃ ai ci, w.cell? ⟨b, off + i, none⟩ = some (.slice ai (N i) ci) ∧ BSeg w ai (N i) (D i)
theorem MSeg.at {w : World} {a : Option Addr} {n : Nat} {N : Nat → Nat} {D : Nat → Nat → List Int} (h : MSeg w a n N D) (i : Nat) (hi : i < n) :
    ∃ b off ai ci, a = some ⟨b, off, none⟩ ∧ b < w.heap.size ∧ w.cell? ⟨b, off + i, none⟩ = some (.slice ai (N i) ci) ∧ BSeg w ai (N i) (D i) := by
  obtain ⟨b, off, e, hlt, hc⟩ := h (by omega)
  obtain ⟨ai, ci, h1, h2⟩ := hc i hi
  exact ⟨b, off, ai, ci, e, hlt, h1, h2⟩
theorem MSeg.below {w w' : World} {a : Option Addr} {n : Nat} {N : Nat → Nat} {D : Nat → Nat → List Int} (h : MSeg w a n N D) (hb : Below w.heap.size w w') : MSeg w' a n N D := fun h0 => by
  obtain ⟨b, off, e, hlt, hc⟩ := h h0
  refine ⟨b, off, e, Nat.lt_of_lt_of_le hlt hb.size, fun i hi => ?_⟩
  obtain ⟨ai, ci, h1, h2⟩ := hc i hi
  exact ⟨ai, ci, (hb.cell (p := ⟨b, off + i, none⟩) hlt).trans h1, h2.below hb⟩
/-- Every image is short enough. -/
def MSz (n : Nat) (N : Nat → Nat) (D : Nat → Nat → List Int) : Prop := ∀ i, i < n → N i ≤ 1048576 ∧ btot (D i) (N i) ≤ 1048576
/-- Every length is one. -/
def MLn (n : Nat) (N : Nat → Nat) (D : Nat → Nat → List Int) : Prop := ∀ i, i < n → N i ≤ 9223372036854775807 ∧ ∀ j, j < N i → (D i j).length ≤ 9223372036854775807
set_option maxHeartbeats 1000000 in
theorem sz_rows_l (a : Option Addr) (cap n L : Nat) (D : Nat → List Int) (w : World) (hs : BSeg w a n D) (hn : n ≤ 9223372036854775807) (hD : ∀ i, i < n → (D i).length ≤ 9223372036854775807) (hL : L ≤ 1048576) :
    Calls Tryz.prog 19 #[.slice a n cap, .int .i64 (L : Int)] w fun e w' => (∃ r : Int, e = .returned (.int .i64 r) ∧ (r < 0 ∨ (0 ≤ r ∧ r ≤ (L : Int) ∧ n ≤ L ∧ btot D n ≤ L))) ∧ w' = w := by
  have HS : Hid _ := And.intro hs hD
  clear hs hD
  by_cases h : n ≤ L
  rotate_left
  · have hw : IntKind.i64.wrap ((L : Int) - (n : Int)) = (L : Int) - (n : Int) := by rw [IntKind.wrap_i64]; omega
    have h0 : (L : Int) - (n : Int) < 0 := by omega
    go_enter Tryz.func19, Tryz.ntmps19
    go_wp2
    go_ret
    exact ⟨⟨_, rfl, .inl (by omega)⟩, rfl⟩
  obtain ⟨d, rfl⟩ : ∃ d, L = n + d := ⟨L - n, by omega⟩
  have hw : IntKind.i64.wrap (((n + d : Nat) : Int) - (n : Int)) = (d : Int) := by rw [show ((n + d : Nat) : Int) - (n : Int) = (d : Int) by omega, IntKind.wrap_i64]; omega
  have h0 : ¬ ((d : Int) < 0) := by omega
  go_enter Tryz.func19, Tryz.ntmps19
  go_wp2
  go_loopw [1, 5] (fun t i wr => ∃ k e : Nat, k ≤ n ∧ e ≤ d ∧ i = .int .i64 k ∧ t = .int .i64 (e : Int) ∧ wr = w ∧ Hid (e + btot D k = d)) (fun _ i _ => n - (intOf i).toNat)
  case atStart => exact ⟨0, d, by omega, Nat.le_refl _, rfl, congrArg _ (by omega), rfl, rfl⟩
  case round =>
    obtain ⟨k, e, hk, hed, rfl, rfl, rfl, HE⟩ := hrel
    clear hw h0
    by_cases hlt : k < n
    · have hlt' : (k : Int) < (n : Int) := by omega
      obtain ⟨b1, o1, a1, c1, rfl, hbl1, e1, s1⟩ := BSeg.at (w := wr) HS.out.1 k hlt
      have HC : Hid _ := sz_bytes a1 c1 (D k).length e wr (HS.out.2 k hlt) (by omega)
      have HT : Hid (btot D (k + 1) = btot D k + (D k).length) := rfl
      generalize (D k).length = len at e1 HC HT
      clear hbl1 s1
      go_wp2_with fail
      refine Calls.mono HC.out ?_
      rintro u w2 ⟨⟨r, rfl, hr⟩, rfl⟩
      rcases hr with hr | ⟨hr, hle⟩
      · go_wp2
        go_ret
        exact ⟨⟨_, rfl, .inl (by omega)⟩, by first | rfl | trivial⟩
      · have hr0 : ¬ (r < 0) := by omega
        have HR : Hid (r = ((e - len : Nat) : Int)) := hr
        have HG : Hid (e - len + btot D (k + 1) = d) := by have h1 := HE.out; have h2 := HT.out; show _ = _; omega
        clear hr HE HT
        go_wp2
        go_roundw
        case rel => exact ⟨k + 1, e - len, by omega, by omega, by go_num, by rw [HR.out], trivial, HG⟩
        case measure => simp [intOf]; omega
    · obtain rfl : k = n := by omega
      go_wp2
      go_ret
      have := HE.out
      exact ⟨⟨_, rfl, .inr ⟨by omega, by omega, by omega, by omega⟩⟩, rfl⟩
set_option maxHeartbeats 1000000 in
theorem sz_imgs (a : Option Addr) (cap n L : Nat) (N : Nat → Nat) (D : Nat → Nat → List Int) (w : World) (hs : MSeg w a n N D) (hn : n ≤ 9223372036854775807) (hD : MLn n N D) (hL : L ≤ 1048576) :
    Calls Tryz.prog 5 #[.slice a n cap, .int .i64 (L : Int)] w fun e w' => (∃ r : Int, e = .returned (.int .i64 r) ∧ (r < 0 ∨ (0 ≤ r ∧ r ≤ (L : Int) ∧ n ≤ L ∧ MSz n N D))) ∧ w' = w := by
  have HS : Hid (MSeg w a n N D ∧ MLn n N D) := And.intro hs hD
  clear hs hD
  by_cases h : n ≤ L
  rotate_left
  · have hw : IntKind.i64.wrap ((L : Int) - (n : Int)) = (L : Int) - (n : Int) := by rw [IntKind.wrap_i64]; omega
    have h0 : (L : Int) - (n : Int) < 0 := by omega
    go_enter Tryz.func5, Tryz.ntmps5
    go_wp2
    go_ret
    exact ⟨⟨_, rfl, .inl (by omega)⟩, rfl⟩
  obtain ⟨d, rfl⟩ : ∃ d, L = n + d := ⟨L - n, by omega⟩
  have hw : IntKind.i64.wrap (((n + d : Nat) : Int) - (n : Int)) = (d : Int) := by rw [show ((n + d : Nat) : Int) - (n : Int) = (d : Int) by omega, IntKind.wrap_i64]; omega
  have h0 : ¬ ((d : Int) < 0) := by omega
  go_enter Tryz.func5, Tryz.ntmps5
  go_wp2
  go_loopw [1, 5] (fun t i wr => ∃ k e : Nat, k ≤ n ∧ e ≤ d ∧ i = .int .i64 k ∧ t = .int .i64 (e : Int) ∧ wr = w ∧ Hid (MSz k N D)) (fun _ i _ => n - (intOf i).toNat)
  case atStart => exact ⟨0, d, by omega, Nat.le_refl _, rfl, congrArg _ (by omega), rfl, fun i hi => absurd hi (by omega)⟩
  case round =>
    obtain ⟨k, e, hk, hed, rfl, rfl, rfl, HE⟩ := hrel
    clear hw h0
    by_cases hlt : k < n
    · have hlt' : (k : Int) < (n : Int) := by omega
      obtain ⟨b1, o1, a1, c1, rfl, hbl1, e1, s1⟩ := MSeg.at (w := wr) HS.out.1 k hlt
      have HC : Hid _ := sz_rows_l a1 c1 (N k) e (D k) wr s1 (HS.out.2 k hlt).1 (HS.out.2 k hlt).2 (by omega)
      have HT : Hid (N k ≤ e ∧ btot (D k) (N k) ≤ e → MSz (k + 1) N D) := fun h i hi => by
        by_cases g : i = k
        · subst g; exact ⟨by omega, by omega⟩
        · exact HE.out i (by omega)
      generalize btot (D k) (N k) = bt at HC HT
      generalize N k = len at e1 HC HT
      clear hbl1 s1 HE
      go_wp2_with fail
      refine Calls.mono HC.out ?_
      rintro u w2 ⟨⟨r, rfl, hr⟩, rfl⟩
      rcases hr with hr | ⟨hr, hrL, h1, h2⟩
      · go_wp2
        go_ret
        exact ⟨⟨_, rfl, .inl (by omega)⟩, by first | rfl | trivial⟩
      · have hr0 : ¬ (r < 0) := by omega
        obtain ⟨R, HR⟩ : ∃ R : Nat, Hid (r = (R : Int)) := ⟨r.toNat, by show _ = _; omega⟩
        have hR : R ≤ d := by have := HR.out; omega
        have HG : Hid (MSz (k + 1) N D) := HT.out ⟨h1, h2⟩
        clear hr hrL h1 h2 HT HC
        go_wp2
        go_roundw
        case rel => exact ⟨k + 1, R, by omega, hR, by go_num, by rw [HR.out], by first | rfl | trivial, HG⟩
        case measure => simp [intOf]; omega
    · obtain rfl : k = n := by omega
      go_wp2
      go_ret
      exact ⟨⟨_, rfl, .inr ⟨by omega, by omega, by omega, HE.out⟩⟩, rfl⟩
theorem infoM : (Tryz.prog.info? 58).map (fun i => (i.zero, i.size, i.bytes)) = some (some (.slice none 0 0), 1, 24) := by kernel_rfl
theorem run_make_imgs (n : Nat) (hn : n ≤ 1048576) (w : World) : (Instr.makeSlice 32 (.int .i64 (n : Int)) (.int .i64 (n : Int))).run Tryz.prog w = .ok (.slice (some ⟨w.heap.size, 0, none⟩) n n) (w.alloc (.cells (madeCells #[.slice none 0 0] n) 58)) :=
  run_make_row' (P := Tryz.prog) 32 58 (.slice none 0 0) 24 Tryz.underlying32 infoM rfl .i64 .i64 n (by omega) (by omega) w
/-- Images that are being laid into the block 'B', k of them so far. -/
structure Msb (w : World) (B n k : Nat) (N : Nat → Nat) (D : Nat → Nat → List Int) : Prop where
  lt : B < w.heap.size
  free : ∀ j, w.frozen? ⟨B, j, none⟩ = false
  room : ∀ i, i < n → ∃ u, w.cell? ⟨B, i, none⟩ = some u
  rows : ∀ i, i < k → ∃ hi ai ci, w.cell? ⟨B, i, none⟩ = some (.slice ai (N i) ci) ∧ BRows w (B + 1) hi ai (N i) (D i)
theorem Msb.below {w w' : World} {B n k : Nat} {N : Nat → Nat} {D : Nat → Nat → List Int} (h : Msb w B n k N D) (hb : Below w.heap.size w w') : Msb w' B n k N D :=
  ⟨Nat.lt_of_lt_of_le h.lt hb.size, fun j => (hb.frozen (p := ⟨B, j, none⟩) h.lt).trans (h.free j), fun i hi => by rw [hb.cell (p := ⟨B, i, none⟩) h.lt]; exact h.room i hi, fun i hi => by
    obtain ⟨H, ai, ci, h1, h2⟩ := h.rows i hi
    exact ⟨H, ai, ci, (hb.cell (p := ⟨B, i, none⟩) h.lt).trans h1, h2.below hb⟩⟩
theorem Msb.made (w : World) (n : Nat) (T : TypeId) (N : Nat → Nat) (D : Nat → Nat → List Int) : Msb (w.alloc (.cells (madeCells #[.slice none 0 0] n) T)) w.heap.size n 0 N D :=
  ⟨by simp, fun j => by simp, fun i hi => ⟨_, (World.rowIs_made w (.slice none 0 0) n T).cell hi⟩, fun i hi => absurd hi (by omega)⟩
theorem Msb.put {w : World} {B n k : Nat} {N : Nat → Nat} {D : Nat → Nat → List Int} (h : Msb w B n k N D) (hk : k < n) (a : Option Addr) (ca hh : Nat) (hr : BRows w (B + 1) hh a (N k) (D k)) : Msb (w.setCell ⟨B, k, none⟩ (.slice a (N k) ca)) B n (k + 1) N D := by
  obtain ⟨u, hu⟩ := h.room k hk
  have hbt : Betw B (B + 1) w (w.setCell ⟨B, k, none⟩ (.slice a (N k) ca)) := (Betw.refl _ _ _).setCell (p := ⟨B, k, none⟩) (Nat.le_refl _) (Nat.lt_succ_self _) _
  refine ⟨by simpa using h.lt, fun j => by rw [World.frozen?_setCell]; exact h.free j, fun i hi => ?_, fun i hi => ?_⟩
  · by_cases e : i = k
    · subst e; exact ⟨_, World.cell?_setCell_same _ _ _ hu⟩
    · rw [World.cell?_setCell_other _ _ _ _ (by intro c; injection c with c1 c2 c3; omega)]; exact h.room i hi
  · by_cases e : i = k
    · subst e; exact ⟨hh, a, ca, World.cell?_setCell_same _ _ _ hu, hr.betw hbt (.inr (Nat.le_refl _))⟩
    · obtain ⟨H, ai, ci, h1, h2⟩ := h.rows i (by omega)
      exact ⟨H, ai, ci, by rw [World.cell?_setCell_other _ _ _ _ (by intro c; injection c with c1 c2 c3; omega)]; exact h1, h2.betw hbt (.inr (Nat.le_refl _))⟩
theorem Msb.seg {w : World} {B n : Nat} {N : Nat → Nat} {D : Nat → Nat → List Int} (h : Msb w B n n N D) : MSeg w (some ⟨B, 0, none⟩) n N D := fun _ =>
  ⟨B, 0, rfl, h.lt, fun i hi => by
    obtain ⟨H, ai, ci, h1, h2⟩ := h.rows i hi
    exact ⟨ai, ci, by rw [Nat.zero_add]; exact h1, h2.seg⟩⟩
set_option maxHeartbeats 1000000 in
theorem to_imgs (a : Option Addr) (cap n : Nat) (N : Nat → Nat) (D : Nat → Nat → List Int) (w : World) (hs : MSeg w a n N D) (hn : n ≤ 1048576) (ht : MSz n N D) :
    Calls Tryz.prog 9 #[.slice a n cap] w fun e w' => e = .returned (.slice (some ⟨w.heap.size, 0, none⟩) n n) ∧ Below w.heap.size w w' ∧ MSeg w' (some ⟨w.heap.size, 0, none⟩) n N D := by
  have hmk := run_make_imgs n hn
  have HS : Hid (MSeg w a n N D ∧ MSz n N D) := And.intro hs ht
  clear hs ht
  go_enter Tryz.func9, Tryz.ntmps9
  go_wp2
  go_loopw [4] (fun i wr => ∃ k : Nat, k ≤ n ∧ i = .int .i64 k ∧ Hid (Below w.heap.size w wr ∧ Msb wr w.heap.size n k N D)) (fun i _ => n - (intOf i).toNat)
  case atStart => exact ⟨0, by omega, rfl, (Below.refl _ _).alloc (Nat.le_refl _) _, Msb.made w n 58 N D⟩
  case round =>
    obtain ⟨k, hk, rfl, HB⟩ := hrel
    by_cases hlt : k < n
    · have hlt' : (k : Int) < (n : Int) := by omega
      obtain ⟨b1, o1, a1, cc, rfl, hbl1, e1, s1⟩ := MSeg.at (w := w) HS.out.1 k hlt
      obtain ⟨hb, hr⟩ := HB.out
      replace e1 := (hb.cell (p := ⟨b1, o1 + k, none⟩) hbl1).trans e1
      have HC : Hid (Calls Tryz.prog 31 #[.slice a1 (N k) cc] wr fun e w' => e = .returned (.slice (some ⟨wr.heap.size, 0, none⟩) (N k) (N k)) ∧ Below wr.heap.size wr w' ∧ BRows w' wr.heap.size w'.heap.size (some ⟨wr.heap.size, 0, none⟩) (N k) (D k)) :=
        to_rows a1 cc (N k) (D k) wr (s1.below hb) (HS.out.2 k hlt).1 (HS.out.2 k hlt).2
      have hm := hr.lt
      obtain ⟨len, HL⟩ : ∃ len, Hid (N k = len) := ⟨_, rfl⟩
      rw [HL.out] at e1 HC
      clear hbl1 s1 HB
      go_wp2_with fail
      refine HC.out.mono ?_
      rintro u w2 ⟨rfl, hbb, hpb⟩
      have hr2 := hr.below hbb
      have hb2 := hb.trans (hbb.mono hb.size)
      obtain ⟨u1, hu1⟩ := hr2.room k hlt
      have hf := hr2.free
      have hr3 := hr2.put hlt (some ⟨wr.heap.size, 0, none⟩) len w2.heap.size (by rw [HL.out]; exact hpb.wide hm (Nat.le_refl _))
      rw [HL.out] at hr3
      have HB3 : Hid (Below w.heap.size w (w2.setCell ⟨w.heap.size, k, none⟩ (.slice (some ⟨wr.heap.size, 0, none⟩) len len)) ∧ Msb (w2.setCell ⟨w.heap.size, k, none⟩ (.slice (some ⟨wr.heap.size, 0, none⟩) len len)) w.heap.size n (k + 1) N D) :=
        ⟨hb2.setCell (p := ⟨w.heap.size, k, none⟩) (Nat.le_refl _) _, hr3⟩
      clear hbb hpb hr2 hb2 hr3 hr hb e1 hm HC
      go_wp2
      go_roundw
      case rel => exact ⟨k + 1, by omega, by go_num, HB3⟩
      case measure => simp [intOf]; omega
    · obtain rfl : k = n := by omega
      go_wp2
      go_ret
      obtain ⟨hb, hr⟩ := HB.out
      exact ⟨rfl, hb, hr.seg⟩
set_option maxHeartbeats 2000000 in
theorem eq_imgs (a b : Option Addr) (ca cb n : Nat) (N : Nat → Nat) (D : Nat → Nat → List Int) (w : World) (ha : MSeg w a n N D) (hb : MSeg w b n N D) (hn : n ≤ 1048576) (ht : MSz n N D) :
    Calls Tryz.prog 13 #[.slice a n ca, .slice b n cb] w fun e w' => e = .returned (.bool true) ∧ Below w.heap.size w w' := by
  have HA : Hid (MSeg w a n N D ∧ MSeg w b n N D) := And.intro ha hb
  have HT : Hid (MSz n N D) := ht
  clear ha hb ht
  go_enter Tryz.func13, Tryz.ntmps13
  go_wp2
  go_loopw [5] (fun i wr => ∃ k : Nat, k ≤ n ∧ i = .int .i64 k ∧ Hid (Below w.heap.size w wr)) (fun i _ => n - (intOf i).toNat)
  case atStart => exact ⟨0, by omega, rfl, Below.refl _ _⟩
  case round =>
    obtain ⟨k, hk, rfl, HB⟩ := hrel
    by_cases hlt : k < n
    · have hlt' : (k : Int) < (n : Int) := by omega
      obtain ⟨b1, o1, a1, c1, rfl, hbl1, e1, s1⟩ := MSeg.at (w := w) HA.out.1 k hlt
      obtain ⟨b2, o2, a2, c2, rfl, hbl2, e2, s2⟩ := MSeg.at (w := w) HA.out.2 k hlt
      have hb := HB.out
      replace e1 := (hb.cell (p := ⟨b1, o1 + k, none⟩) hbl1).trans e1
      replace e2 := (hb.cell (p := ⟨b2, o2 + k, none⟩) hbl2).trans e2
      have HC : Hid (∀ X, Below w.heap.size w X → Calls Tryz.prog 47 #[.slice a1 (N k) c1, .slice a2 (N k) c2] X fun e w' => e = .returned (.bool true) ∧ Below X.heap.size X w') := fun X hX =>
        eq_rows a1 a2 c1 c2 (N k) (D k) X (s1.below hX) (s2.below hX) (HT.out k hlt).1 (HT.out k hlt).2
      generalize N k = len at e1 e2 HC
      clear hbl1 hbl2 HB s1 s2
      go_wp2
      go_region_held3 (fun w' => w'.cell? ⟨b1, o1 + k, none⟩ = some (.slice a1 len c1) ∧ w'.cell? ⟨b2, o2 + k, none⟩ = some (.slice a2 len c2)) (first | exact ⟨e1, e2⟩) (first | (go_at_call 47; refine Calls.mono (HC.out _ (by first | exact hb | exact hb.drew)) ?_; rintro u w9 ⟨rfl, hbb⟩; (first | replace hb := hb.trans (hbb.mono hb.size) | replace hb := hb.drew.trans (hbb.mono hb.drew.size)); replace e1 := kept_cell hbb e1; replace e2 := kept_cell hbb e2; clear hbb))
      go_wp2
      go_roundw
      case rel => exact ⟨k + 1, by omega, by go_num, hb⟩
      case measure => simp [intOf]; omega
    · go_wp2
      go_ret
      exact ⟨rfl, HB.out⟩
end Go.Proofs.YtgmhcngdgfhhaaaGreatDoor
