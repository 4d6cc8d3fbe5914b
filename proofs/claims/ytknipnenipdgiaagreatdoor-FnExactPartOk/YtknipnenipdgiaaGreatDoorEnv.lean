
/-
  Lists of states of devices, laid anew by the laws' copy. Conditions: lengths are at most 1048576 together.
-/
import Derived.Test.YtknipnenipdgiaaGreatDoorBas
import Derived.Test.YtknipnenipdgiaaGreatDoorProg
import Derived.Test.YtknipnenipdgiaaGreatDoorEni
import Derived.Test.YtknipnenipdgiaaGreatDoorEno
namespace Go.Proofs.YtknipnenipdgiaaGreatDoor
open Go.ChangeShapes Go.WideShapes Go.ChangeAt Go.RowKit Go.Deep
set_option linter.unusedVariables false

theorem infoD : (Tryz.prog.info? 163).map (fun i => (i.zero, i.size, i.bytes)) = some (some (.agg #[.slice none 0 0, .slice none 0 0]), 2, 48) := by kernel_rfl
theorem run_make_devs (n : Nat) (hn : n ≤ 1048576) (w : World) : (Instr.makeSlice 71 (.int .i64 (n : Int)) (.int .i64 (n : Int))).run Tryz.prog w = .ok (.slice (some ⟨w.heap.size, 0, none⟩) n n) (w.alloc (.cells (madeCells #[.slice none 0 0, .slice none 0 0] (n * 2)) 163)) := by
  obtain ⟨i, hi, hzz⟩ := Option.map_eq_some_iff.1 infoD
  simp only [Prod.mk.injEq] at hzz
  obtain ⟨hz, hs, hb⟩ := hzz
  have := run_make (P := Tryz.prog) w 71 163 i _ Tryz.underlying71 hi hz .i64 .i64 n n (by omega) (Int.le_refl _) (by rw [hb]; omega) (by omega)
  rw [hs, Int.toNat_natCast] at this
  exact this
/-- Two families of rows, in turn. -/
def zip2 (D E : Nat → List Int) : Nat → List Int := fun j => if j % 2 = 0 then D (j / 2) else E (j / 2)
theorem zip2_even (D E : Nat → List Int) (i : Nat) : zip2 D E (i * 2) = D i := by
  unfold zip2; rw [if_pos (by omega), show i * 2 / 2 = i by omega]
theorem zip2_odd (D E : Nat → List Int) (i : Nat) : zip2 D E (i * 2 + 1) = E i := by
  unfold zip2; rw [if_neg (by omega), show (i * 2 + 1) / 2 = i by omega]
theorem made_dev (w : World) (n : Nat) (T : TypeId) (D : Nat → List Int) : W4.Bsb (w.alloc (.cells (madeCells #[.slice none 0 0, .slice none 0 0] (n * 2)) T)) w.heap.size (w.heap.size + 1) w.heap.size (n * 2) 0 D := by
  refine ⟨by omega, by simp, Nat.le_refl _, fun j => by simp, fun i hi => ?_, fun _ => none, fun _ => 0, fun _ => 0, ⟨fun i hi => absurd hi (by omega), fun i hi => absurd hi (by omega), fun i hi => absurd hi (by omega), fun i hi => absurd hi (by omega), fun i j hi => absurd hi (by omega)⟩⟩
  by_cases e : i % 2 = 0
  · have := new_cell w _ T _ _ (made_two (.slice none 0 0) (.slice none 0 0) n (i / 2) (by omega)).1
    rw [show i / 2 * 2 = i by omega] at this
    exact ⟨_, this⟩
  · have := new_cell w _ T _ _ (made_two (.slice none 0 0) (.slice none 0 0) n (i / 2) (by omega)).2
    rw [show i / 2 * 2 + 1 = i by omega] at this
    exact ⟨_, this⟩
theorem dev_seg {w : World} {lo hi n : Nat} {a : Option Addr} {D E : Nat → List Int} (h : W4.BRows w lo hi a (n * 2) (zip2 D E)) : VSeg w a n D E := fun h0 => by
  obtain ⟨B, off, A, C, R, h1, h2⟩ := h
  obtain ⟨e, g1, g2, g3⟩ := h1 (by omega)
  refine ⟨B, off, e, g3, fun i hi => ⟨A (i * 2), C (i * 2), A (i * 2 + 1), C (i * 2 + 1), ?_, ?_, ?_, ?_, ?_, ?_⟩⟩
  · have := h2.cell (i * 2) (by omega); rwa [zip2_even] at this
  · have := h2.cell (i * 2 + 1) (by omega); rwa [zip2_odd] at this
  · have := (h2.row (i * 2) (by omega)).seg; rwa [zip2_even] at this
  · have := (h2.row (i * 2 + 1) (by omega)).seg; rwa [zip2_odd] at this
  · have := h2.room (i * 2) (by omega); rwa [zip2_even] at this
  · have := h2.room (i * 2 + 1) (by omega); rwa [zip2_odd] at this
set_option maxHeartbeats 1000000 in
theorem to_devs (a : Option Addr) (cap n : Nat) (D E : Nat → List Int) (w : World) (hs : VSeg w a n D E) (hn : n ≤ 1048576) (ht : btot D n + btot E n ≤ 1048576) :
    Calls Tryz.prog 61 #[.slice a n cap] w fun e w' => e = .returned (.slice (some ⟨w.heap.size, 0, none⟩) n n) ∧ Below w.heap.size w w' ∧ W4.BRows w' w.heap.size w'.heap.size (some ⟨w.heap.size, 0, none⟩) (n * 2) (zip2 D E) := by
  have hmk := run_make_devs n hn
  have HS : Hid _ := And.intro hs ht
  clear hs ht
  go_enter Tryz.func61, Tryz.ntmps61
  go_wp2
  go_loopw [4] (fun i wr => ∃ k : Nat, k ≤ n ∧ i = .int .i64 k ∧ Hid (Below w.heap.size w wr ∧ ∃ m, W4.Bsb wr w.heap.size m w.heap.size (n * 2) (k * 2) (zip2 D E))) (fun i _ => n - (intOf i).toNat)
  case atStart => exact ⟨0, by omega, rfl, (Below.refl _ _).alloc (Nat.le_refl _) _, _, made_dev w n _ _⟩
  case round =>
    obtain ⟨k, hk, rfl, HB⟩ := hrel
    by_cases hlt : k < n
    · have hlt' : (k : Int) < (n : Int) := by omega
      obtain ⟨b1, o1, a1, c1, f1, g1, rfl, hbl1, d1, e1, s1, t1⟩ := VSeg.at (w := w) HS.out.1 k hlt
      obtain ⟨hb, m, hr⟩ := HB.out
      replace d1 := (hb.cell (p := ⟨b1, o1 + k * 2, none⟩) hbl1).trans d1
      replace e1 := (hb.cell (p := ⟨b1, o1 + k * 2 + 1, none⟩) hbl1).trans e1
      have HC : Hid _ := to_dev a1 f1 c1 (D k).length g1 (E k).length (D k) (E k) wr (s1.below hb) (t1.below hb) rfl (by have h1 := btot_row D hlt; have h2 : btot D n + btot E n ≤ 1048576 := HS.out.2; omega) rfl (by have h1 := btot_row E hlt; have h2 : btot D n + btot E n ≤ 1048576 := HS.out.2; omega)
      obtain ⟨len, HL⟩ : ∃ len, Hid ((D k).length = len) := ⟨_, rfl⟩
      obtain ⟨ken, HK⟩ : ∃ ken, Hid ((E k).length = ken) := ⟨_, rfl⟩
      have hm := hr.mle
      have hB := hr.lt
      rw [HL.out] at d1 HC
      rw [HK.out] at e1 HC
      clear hbl1 s1 t1 HB
      go_wp2_with fail
      refine Calls.mono HC.out ?_
      rintro u w2 ⟨g, q, rfl, hbb, hgq, hg0, hq0, hp1, hp2⟩
      have hr2 := hr.below hbb
      have hb2 := hb.trans (hbb.mono hb.size)
      obtain ⟨u1, hu1⟩ := hr2.room (k * 2) (by omega)
      obtain ⟨u2, hu2⟩ := hr2.room (k * 2 + 1) (by omega)
      have hf := hr2.free
      have hsz := hbb.size
      have hE := zip2_even D E k
      have hO := zip2_odd D E k
      have hr3 := hr2.put (by omega) (some ⟨g, 0, none⟩) len g q (fun _ => by omega) (by rw [hE]; exact hp1.wide hb.size (Nat.le_refl _)) (by rw [hE, HL.out]; exact Nat.le_refl _) (by omega) (by omega)
      rw [hE, HL.out] at hr3
      have hbt : Betw w.heap.size (w.heap.size + 1) w2 (w2.setCell ⟨w.heap.size, k * 2, none⟩ (.slice (some ⟨g, 0, none⟩) len len)) := (Betw.refl _ _ _).setCell (p := ⟨w.heap.size, k * 2, none⟩) (Nat.le_refl _) (Nat.lt_succ_self _) _
      have hp3 := hp2.betw hbt (fun _ => by omega)
      have hr4 := hr3.put (by omega) (some ⟨q, 0, none⟩) ken q w2.heap.size (fun _ => Nat.le_refl _) (by rw [hO]; exact hp3.wide (by omega) (Nat.le_refl _)) (by rw [hO, HK.out]; exact Nat.le_refl _) (by omega) (by simp)
      rw [hO, HK.out] at hr4
      have HB3 : Hid (Below w.heap.size w ((w2.setCell ⟨w.heap.size, k * 2, none⟩ (.slice (some ⟨g, 0, none⟩) len len)).setCell ⟨w.heap.size, k * 2 + 1, none⟩ (.slice (some ⟨q, 0, none⟩) ken ken)) ∧ ∃ m, W4.Bsb ((w2.setCell ⟨w.heap.size, k * 2, none⟩ (.slice (some ⟨g, 0, none⟩) len len)).setCell ⟨w.heap.size, k * 2 + 1, none⟩ (.slice (some ⟨q, 0, none⟩) ken ken)) w.heap.size m w.heap.size (n * 2) ((k + 1) * 2) (zip2 D E)) :=
        ⟨(hb2.setCell (p := ⟨w.heap.size, k * 2, none⟩) (Nat.le_refl _) _).setCell (p := ⟨w.heap.size, k * 2 + 1, none⟩) (Nat.le_refl _) _, _, by rw [show (k + 1) * 2 = k * 2 + 1 + 1 by omega]; exact hr4⟩
      have hu3 : (w2.setCell ⟨w.heap.size, k * 2, none⟩ (.slice (some ⟨g, 0, none⟩) len len)).cell? ⟨w.heap.size, k * 2 + 1, none⟩ = some u2 := by rw [World.cell?_setCell_other _ _ _ _ (by simp)]; exact hu2
      clear hbb hp1 hp2 hp3 hbt hr2 hb2 hr3 hr4 hr hb e1 d1 hm hsz HC hB hE hO hgq hg0 hq0
      go_wp2
      go_roundw
      case rel => exact ⟨k + 1, by omega, by go_num, HB3⟩
      case measure => simp [intOf]; omega
    · obtain rfl : k = n := by omega
      go_wp2
      go_ret
      obtain ⟨hb, m, hr⟩ := HB.out
      exact ⟨rfl, hb, hr.rows'.wide (Nat.le_refl _) hr.mle⟩
end Go.Proofs.YtknipnenipdgiaaGreatDoor
