
/-
  Lists of ends that receive, laid anew by the laws' copy. Conditions: lengths are at most 1048576 together.
-/
import Derived.Test.YtknipnenipdgiaaGreatDoorBas
import Derived.Test.YtknipnenipdgiaaGreatDoorProg
import Derived.Test.YtknipnenipdgiaaGreatDoorEnl
namespace Go.Proofs.YtknipnenipdgiaaGreatDoor
open Go.ChangeShapes Go.WideShapes Go.ChangeAt Go.RowKit Go.Deep
set_option linter.unusedVariables false

theorem infoI : (Tryz.prog.info? 202).map (fun i => (i.zero, i.size, i.bytes)) = some (some (.agg #[.slice none 0 0]), 1, 24) := by kernel_rfl
theorem run_make_ins (n : Nat) (hn : n ≤ 1048576) (w : World) : (Instr.makeSlice 70 (.int .i64 (n : Int)) (.int .i64 (n : Int))).run Tryz.prog w = .ok (.slice (some ⟨w.heap.size, 0, none⟩) n n) (w.alloc (.cells (madeCells #[.slice none 0 0] n) 202)) := by
  obtain ⟨i, hi, hzz⟩ := Option.map_eq_some_iff.1 infoI
  simp only [Prod.mk.injEq] at hzz
  obtain ⟨hz, hs, hb⟩ := hzz
  have := run_make (P := Tryz.prog) w 70 202 i _ Tryz.underlying70 hi hz .i64 .i64 n n (by omega) (Int.le_refl _) (by rw [hb]; omega) (by omega)
  rw [hs, Int.toNat_natCast, Nat.mul_one] at this
  exact this
namespace W4
/-- Rows whose blocks, and that of the list itself, lie from 'lo' on and below 'hi', apart from one another. -/
structure BRA (w : World) (lo hi B off : Nat) (A : Nat → Option Addr) (C R : Nat → Nat) (n : Nat) (D : Nat → List Int) : Prop where
  cell : ∀ i, i < n → w.cell? ⟨B, off + i, none⟩ = some (.slice (A i) (D i).length (C i))
  room : ∀ i, i < n → (D i).length ≤ C i
  row : ∀ i, i < n → ON .u32 w lo hi (A i) (D i) (R i)
  base : ∀ i, i < n → 0 < (D i).length → R i ≠ B
  apart : ∀ i j, i < n → j < n → i ≠ j → 0 < (D i).length → 0 < (D j).length → R i ≠ R j
def BRows (w : World) (lo hi : Nat) (a : Option Addr) (n : Nat) (D : Nat → List Int) : Prop :=
  ∃ (B off : Nat) (A : Nat → Option Addr) (C R : Nat → Nat), (0 < n → a = some ⟨B, off, none⟩ ∧ lo ≤ B ∧ B < hi ∧ B < w.heap.size) ∧ BRA w lo hi B off A C R n D
theorem BRA.betw {w w' : World} {lo hi B off l' h' : Nat} {A : Nat → Option Addr} {C R : Nat → Nat} {n : Nat} {D : Nat → List Int} (h : BRA w lo hi B off A C R n D) (hb : Betw l' h' w w') (hB : B < w.heap.size) (ho : hi ≤ l' ∨ h' ≤ lo) (hB1 : lo ≤ B) (hB2 : B < hi) : BRA w' lo hi B off A C R n D :=
  ⟨fun i hi' => (hb.cell (p := ⟨B, off + i, none⟩) hB (by rcases ho with h | h <;> simp <;> omega)).trans (h.cell i hi'), h.room, fun i hi' => (h.row i hi').betw hb (fun h0 => by obtain ⟨_, _, h1, h2, _⟩ := h.row i hi' h0; omega), h.base, h.apart⟩
theorem BRows.betw {w w' : World} {lo hi l' h' : Nat} {a : Option Addr} {n : Nat} {D : Nat → List Int} (h : BRows w lo hi a n D) (hb : Betw l' h' w w') (ho : hi ≤ l' ∨ h' ≤ lo) : BRows w' lo hi a n D := by
  obtain ⟨B, off, A, C, R, h1, h2⟩ := h
  by_cases h0 : 0 < n
  · obtain ⟨e, g1, g2, g3⟩ := h1 h0
    exact ⟨B, off, A, C, R, fun _ => ⟨e, g1, g2, Nat.lt_of_lt_of_le g3 hb.size⟩, h2.betw hb g3 ho g1 g2⟩
  · exact ⟨B, off, A, C, R, fun h => absurd h h0, ⟨fun i hi => absurd hi (by omega), fun i hi => absurd hi (by omega), fun i hi => absurd hi (by omega), fun i hi => absurd hi (by omega), fun i j hi => absurd hi (by omega)⟩⟩
theorem BRows.below {w w' : World} {lo hi : Nat} {a : Option Addr} {n : Nat} {D : Nat → List Int} (h : BRows w lo hi a n D) (hb : Below w.heap.size w w') : BRows w' lo hi a n D :=
  BRows.betw (l' := 0) (h' := 0) h (Below.betw hb) (.inr (Nat.zero_le _))
theorem BRows.seg {w : World} {lo hi : Nat} {a : Option Addr} {n : Nat} {D : Nat → List Int} (h : BRows w lo hi a n D) : ISeg w a n D := fun h0 => by
  obtain ⟨B, off, A, C, R, h1, h2⟩ := h
  obtain ⟨e, g1, g2, g3⟩ := h1 h0
  exact ⟨B, off, e, g3, fun i hi => ⟨A i, C i, h2.cell i hi, (h2.row i hi).seg, h2.room i hi⟩⟩
theorem BRows.congr {w : World} {lo hi : Nat} {a : Option Addr} {n : Nat} {D E : Nat → List Int} (h : BRows w lo hi a n D) (he : ∀ i, i < n → D i = E i) : BRows w lo hi a n E := by
  obtain ⟨B, off, A, C, R, h1, h2⟩ := h
  exact ⟨B, off, A, C, R, h1, ⟨fun i hi => by rw [← he i hi]; exact h2.cell i hi, fun i hi => by rw [← he i hi]; exact h2.room i hi, fun i hi => by rw [← he i hi]; exact h2.row i hi, fun i hi => by rw [← he i hi]; exact h2.base i hi, fun i j hi hj => by rw [← he i hi, ← he j hj]; exact h2.apart i j hi hj⟩⟩
theorem BRows.wide {w : World} {lo hi l' h' : Nat} {a : Option Addr} {n : Nat} {D : Nat → List Int} (h : BRows w lo hi a n D) (g1 : l' ≤ lo) (g2 : hi ≤ h') : BRows w l' h' a n D := by
  obtain ⟨B, off, A, C, R, h1, h2⟩ := h
  exact ⟨B, off, A, C, R, fun h0 => ⟨(h1 h0).1, by have := (h1 h0).2.1; omega, by have := (h1 h0).2.2.1; omega, (h1 h0).2.2.2⟩, ⟨h2.cell, h2.room, fun i hi => (h2.row i hi).wide g1 g2, h2.base, h2.apart⟩⟩
/-- One row is written over by as many bytes. -/
theorem BRA.put {w w' : World} {lo hi B off : Nat} {A : Nat → Option Addr} {C R : Nat → Nat} {n : Nat} {D : Nat → List Int} (h : BRA w lo hi B off A C R n D) (m : Nat) (hm : m < n) (hBw : B < w.heap.size) (ws : List Int) (hl : ws.length = (D m).length)
    (hb : Betw (R m) (R m + 1) w w') (hw : ON .u32 w' lo hi (A m) ws (R m)) (h0 : 0 < (D m).length) : BRA w' lo hi B off A C R n (fun i => if i = m then ws else D i) := by
  have hlen : ∀ i, (if i = m then ws else D i).length = (D i).length := fun i => by
    by_cases e : i = m
    · subst e; rw [if_pos rfl]; exact hl
    · rw [if_neg e]
  refine ⟨fun i hi => ?_, fun i hi => by rw [hlen]; exact h.room i hi, fun i hi => ?_, fun i hi => ?_, fun i j hi hj => ?_⟩
  · rw [hlen]
    have := h.base m hm h0
    exact (hb.cell (p := ⟨B, off + i, none⟩) hBw (by simp; omega)).trans (h.cell i hi)
  · by_cases e : i = m
    · subst e; rw [if_pos rfl]; exact hw
    · rw [if_neg e]
      refine (h.row i hi).betw hb (fun g0 => ?_)
      have := h.apart i m hi hm e g0 h0
      omega
  · rw [hlen]; exact h.base i hi
  · rw [hlen, hlen]; exact h.apart i j hi hj
/-- Rows that are being laid into the block 'B', k of them so far; their own blocks lie below 'm'. -/
structure Bsb (w : World) (lo m B n k : Nat) (D : Nat → List Int) : Prop where
  lt : B < m
  mle : m ≤ w.heap.size
  low : lo ≤ B
  free : ∀ j, w.frozen? ⟨B, j, none⟩ = false
  room : ∀ i, i < n → ∃ u, w.cell? ⟨B, i, none⟩ = some u
  rows : ∃ A C R, BRA w lo m B 0 A C R k D
theorem BRA.keep {w w' : World} {lo hi B off : Nat} {A : Nat → Option Addr} {C R : Nat → Nat} {n : Nat} {D : Nat → List Int} (h : BRA w lo hi B off A C R n D) (hb : Below w.heap.size w w') (hB : B < w.heap.size) : BRA w' lo hi B off A C R n D :=
  ⟨fun i hi' => (hb.cell (p := ⟨B, off + i, none⟩) hB).trans (h.cell i hi'), h.room, fun i hi' => (h.row i hi').below hb, h.base, h.apart⟩
theorem Bsb.below {w w' : World} {lo m B n k : Nat} {D : Nat → List Int} (h : Bsb w lo m B n k D) (hb : Below w.heap.size w w') : Bsb w' lo m B n k D := by
  have hB : B < w.heap.size := Nat.lt_of_lt_of_le h.lt h.mle
  obtain ⟨A, C, R, hr⟩ := h.rows
  exact ⟨h.lt, Nat.le_trans h.mle hb.size, h.low, fun j => (hb.frozen (p := ⟨B, j, none⟩) hB).trans (h.free j), fun i hi => by rw [hb.cell (p := ⟨B, i, none⟩) hB]; exact h.room i hi, A, C, R, hr.keep hb hB⟩
theorem Bsb.put {w : World} {lo m B n k : Nat} {D : Nat → List Int} (h : Bsb w lo m B n k D) (hk : k < n) (a : Option Addr) (ca Rk m' : Nat) (hR : 0 < (D k).length → m ≤ Rk) (how : ON .u32 w lo m' a (D k) Rk) (hca : (D k).length ≤ ca) (hm : m ≤ m') (hm' : m' ≤ w.heap.size) :
    Bsb (w.setCell ⟨B, k, none⟩ (.slice a (D k).length ca)) lo m' B n (k + 1) D := by
  obtain ⟨u, hu⟩ := h.room k hk
  have hB : B < w.heap.size := Nat.lt_of_lt_of_le h.lt h.mle
  have hbt : Betw B (B + 1) w (w.setCell ⟨B, k, none⟩ (.slice a (D k).length ca)) := (Betw.refl _ _ _).setCell (p := ⟨B, k, none⟩) (Nat.le_refl _) (Nat.lt_succ_self _) _
  obtain ⟨A, C, R, hr⟩ := h.rows
  have hlt := h.lt
  refine ⟨by omega, by simpa using hm', h.low, fun j => by rw [World.frozen?_setCell]; exact h.free j, fun i hi => ?_, fun i => if i = k then a else A i, fun i => if i = k then ca else C i, fun i => if i = k then Rk else R i, ⟨fun i hi => ?_, fun i hi => ?_, fun i hi => ?_, fun i hi h0 => ?_, fun i j hi hj hne hi0 hj0 => ?_⟩⟩
  · by_cases e : i = k
    · subst e; exact ⟨_, World.cell?_setCell_same _ _ _ hu⟩
    · rw [World.cell?_setCell_other _ _ _ _ (by intro c; injection c with c1 c2 c3; omega)]; exact h.room i hi
  · simp only [Nat.zero_add]
    by_cases e : i = k
    · subst e; simp only [if_pos]; exact World.cell?_setCell_same _ _ _ hu
    · simp only [if_neg e]
      rw [World.cell?_setCell_other _ _ _ _ (by intro c; injection c with c1 c2 c3; omega)]
      have := hr.cell i (by omega)
      rwa [Nat.zero_add] at this
  · by_cases e : i = k
    · subst e; simp only [if_pos]; exact hca
    · simp only [if_neg e]; exact hr.room i (by omega)
  · by_cases e : i = k
    · subst e
      simp only [if_pos]
      exact how.betw hbt (fun h0 => by have := hR h0; omega)
    · simp only [if_neg e]
      refine ((hr.row i (by omega)).wide (Nat.le_refl _) hm).betw hbt (fun h0 => ?_)
      have := hr.base i (by omega) h0
      omega
  · by_cases e : i = k
    · subst e
      simp only [if_pos]
      have := hR h0; omega
    · simp only [if_neg e]
      exact hr.base i (by omega) h0
  · by_cases e : i = k
    · have e2 : j ≠ k := by omega
      have hj' : j < k := by omega
      rw [e] at hi0
      obtain ⟨_, _, _, g, _⟩ := hr.row j hj' hj0
      simp only [if_pos e, if_neg e2]
      have := hR hi0; omega
    · by_cases e2 : j = k
      · have hi' : i < k := by omega
        rw [e2] at hj0
        obtain ⟨_, _, _, g, _⟩ := hr.row i hi' hi0
        simp only [if_neg e, if_pos e2]
        have := hR hj0; omega
      · simp only [if_neg e, if_neg e2]
        exact hr.apart i j (by omega) (by omega) hne hi0 hj0
theorem Bsb.rows' {w : World} {lo m B n : Nat} {D : Nat → List Int} (h : Bsb w lo m B n n D) : BRows w lo m (some ⟨B, 0, none⟩) n D := by
  obtain ⟨A, C, R, hr⟩ := h.rows
  exact ⟨B, 0, A, C, R, fun _ => ⟨rfl, h.low, h.lt, Nat.lt_of_lt_of_le h.lt h.mle⟩, hr⟩
theorem BRA.congr {w : World} {lo hi B off : Nat} {A : Nat → Option Addr} {C R : Nat → Nat} {n : Nat} {D E : Nat → List Int} (h : BRA w lo hi B off A C R n D) (he : ∀ i, i < n → D i = E i) : BRA w lo hi B off A C R n E :=
  ⟨fun i hi => by rw [← he i hi]; exact h.cell i hi, fun i hi => by rw [← he i hi]; exact h.room i hi, fun i hi => by rw [← he i hi]; exact h.row i hi, fun i hi => by rw [← he i hi]; exact h.base i hi, fun i j hi hj => by rw [← he i hi, ← he j hj]; exact h.apart i j hi hj⟩
theorem Bsb.made (w : World) (n : Nat) (T : TypeId) (D : Nat → List Int) : Bsb (w.alloc (.cells (madeCells #[.slice none 0 0] n) T)) w.heap.size (w.heap.size + 1) w.heap.size n 0 D := by
  refine ⟨by omega, by simp, Nat.le_refl _, fun j => by simp, fun i hi => ⟨_, (World.rowIs_made w (.slice none 0 0) n T).cell hi⟩, fun _ => none, fun _ => 0, fun _ => 0, ⟨fun i hi => absurd hi (by omega), fun i hi => absurd hi (by omega), fun i hi => absurd hi (by omega), fun i hi => absurd hi (by omega), fun i j hi => absurd hi (by omega)⟩⟩
end W4
set_option maxHeartbeats 1000000 in
theorem to_ins (a : Option Addr) (cap n : Nat) (D : Nat → List Int) (w : World) (hs : ISeg w a n D) (hn : n ≤ 1048576) (ht : btot D n ≤ 1048576) :
    Calls Tryz.prog 60 #[.slice a n cap] w fun e w' => e = .returned (.slice (some ⟨w.heap.size, 0, none⟩) n n) ∧ Below w.heap.size w w' ∧ W4.BRows w' w.heap.size w'.heap.size (some ⟨w.heap.size, 0, none⟩) n D := by
  have hmk := run_make_ins n hn
  have HS : Hid _ := And.intro hs ht
  clear hs ht
  go_enter Tryz.func60, Tryz.ntmps60
  go_wp2
  go_loopw [4] (fun i wr => ∃ k : Nat, k ≤ n ∧ i = .int .i64 k ∧ Hid (Below w.heap.size w wr ∧ ∃ m, W4.Bsb wr w.heap.size m w.heap.size n k D)) (fun i _ => n - (intOf i).toNat)
  case atStart => exact ⟨0, by omega, rfl, (Below.refl _ _).alloc (Nat.le_refl _) _, _, W4.Bsb.made w n 202 D⟩
  case round =>
    obtain ⟨k, hk, rfl, HB⟩ := hrel
    by_cases hlt : k < n
    · have hlt' : (k : Int) < (n : Int) := by omega
      obtain ⟨b1, o1, a1, cc, rfl, hbl1, e1, s1⟩ := ISeg.at (w := w) HS.out.1 k hlt
      obtain ⟨hb, m, hr⟩ := HB.out
      replace e1 := (hb.cell (p := ⟨b1, o1 + k, none⟩) hbl1).trans e1
      have HC : Hid (Calls Tryz.prog 134 #[.agg #[.slice a1 (D k).length cc]] wr fun e w' => ∃ g, e = .returned (.agg #[.slice (some ⟨g, 0, none⟩) (D k).length (D k).length]) ∧ Below wr.heap.size wr w' ∧ ON .u32 w' wr.heap.size w'.heap.size (some ⟨g, 0, none⟩) (D k) g) :=
        to_in a1 cc (D k).length (D k) wr (s1.below hb) rfl (Nat.le_trans (btot_row D hlt) HS.out.2)
      obtain ⟨len, HL⟩ : ∃ len, Hid ((D k).length = len) := ⟨_, rfl⟩
      have hm := hr.mle
      rw [HL.out] at e1 HC
      clear hbl1 s1 HB
      go_wp2_with fail
      refine HC.out.mono ?_
      rintro u w2 ⟨g, rfl, hbb, hpb⟩
      have hr2 := hr.below hbb
      have hb2 := hb.trans (hbb.mono hb.size)
      obtain ⟨u1, hu1⟩ := hr2.room k hlt
      have hf := hr2.free
      have hsz := hbb.size
      have hr3 := hr2.put hlt (some ⟨g, 0, none⟩) len g w2.heap.size (fun h0 => by obtain ⟨_, _, h1, _⟩ := hpb h0; omega) (hpb.wide hb.size (Nat.le_refl _)) (by rw [HL.out]; exact Nat.le_refl _) (by omega) (Nat.le_refl _)
      rw [HL.out] at hr3
      have HB3 : Hid (Below w.heap.size w (w2.setCell ⟨w.heap.size, k, none⟩ (.slice (some ⟨g, 0, none⟩) len len)) ∧ ∃ m, W4.Bsb (w2.setCell ⟨w.heap.size, k, none⟩ (.slice (some ⟨g, 0, none⟩) len len)) w.heap.size m w.heap.size n (k + 1) D) :=
        ⟨hb2.setCell (p := ⟨w.heap.size, k, none⟩) (Nat.le_refl _) _, _, hr3⟩
      clear hbb hpb hr2 hb2 hr3 hr hb e1 hm hsz HC
      go_wp2
      go_roundw
      case rel => exact ⟨k + 1, by omega, by go_num, HB3⟩
      case measure => simp [intOf]; omega
    · obtain rfl : k = n := by omega
      go_wp2
      go_ret
      obtain ⟨hb, m, hr⟩ := HB.out
      exact ⟨rfl, hb, hr.rows'.wide (Nat.le_refl _) hr.mle⟩
end Go.Proofs.YtknipnenipdgiaaGreatDoor
