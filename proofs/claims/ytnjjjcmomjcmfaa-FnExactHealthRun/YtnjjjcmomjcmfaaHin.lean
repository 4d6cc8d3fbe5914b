
/-
  The laws' copy of a list of integers, and how a list of integers that came in is read. Conditions: the list reads as integers and has at most 1048576 where it is copied.
-/
import Derived.Test.YtnjjjcmomjcmfaaRows
import Derived.Test.YtnjjjcmomjcmfaaOnl
import Derived.Test.YtnjjjcmomjcmfaaHlt
import Derived.Deep.SlicePairs
import Derived.Lib.SmallJoins
namespace Go.Proofs.Ytnjjjcmomjcmfaa
open Go.ChangeShapes Go.WideShapes Go.ChangeAt Go.RowKit Go.Joins Go.Deep
set_option linter.unusedVariables false

set_option maxHeartbeats 400000 in
theorem to_ints (a : Option Addr) (cap n : Nat) (zs : List Int) (w : World) (hs : Seg .i64 w a zs) (hl : zs.length = n) (hn : n ≤ 1048576) :
    Calls Try.prog 21 #[.slice a n cap] w fun e w' => e = .returned (.slice (some ⟨w.heap.size, 0, none⟩) n n) ∧ Below w.heap.size w w' ∧ OI w' w.heap.size w'.heap.size (some ⟨w.heap.size, 0, none⟩) zs := by
  have HS : Hid (Seg .i64 w a zs) := hs
  have Hn : Hid _ := hl
  clear hs hl
  have hmk := run_make_row' (P := Try.prog) 39 3 (.int .i64 0) 8 Try.underlying39 info3 rfl .i64 .i64 n (by omega) (by omega)
  go_enter Try.func21, Try.ntmps21
  go_wp2
  go_loopw [4] (fun i wr => ∃ k : Nat, k ≤ n ∧ i = .int .i64 k ∧ Hid (Below w.heap.size w wr ∧ wr.heap.size = w.heap.size + 1 ∧ Own .i64 wr w.heap.size (zs.take k ++ List.replicate (zs.length - k) 0))) (fun i _ => n - (intOf i).toNat)
  case atStart => exact ⟨0, by omega, rfl, (Below.refl _ _).alloc (Nat.le_refl _) _, by simp, by simpa [Hn.out] using Own.made .i64 w zs.length 3 0⟩
  case round =>
    obtain ⟨k, hk, rfl, HR⟩ := hrel
    obtain ⟨hb, hsz, HO⟩ := HR.out
    by_cases hlt : k < n
    · have hl : k < zs.length := by rw [Hn.out]; exact hlt
      have hlt' : (k : Int) < (n : Int) := by omega
      obtain ⟨b, off, rfl, hbl, hc⟩ := Seg.at (w := w) HS.out k hl
      have hc1 : wr.cell? ⟨b, off + k, none⟩ = some (.int .i64 (zs.getD k 0)) := (hb.cell (p := ⟨b, off + k, none⟩) hbl).trans hc
      have hlc := copy_len zs k (by omega)
      have HO2 := HO.set k (zs.getD k 0) (by omega)
      rw [copy_step zs k hl] at HO2
      obtain ⟨u, hu⟩ : ∃ u, wr.cell? ⟨w.heap.size, k, none⟩ = some u := ⟨_, HO.cell k (by omega)⟩
      have hf := HO.free k
      have hb2 := hb.setCell (p := ⟨w.heap.size, k, none⟩) (Nat.le_refl _) (.int .i64 (zs.getD k 0))
      have hsz2 : (wr.setCell ⟨w.heap.size, k, none⟩ (.int .i64 (zs.getD k 0))).heap.size = w.heap.size + 1 := by simpa using hsz
      have HB2 : Hid _ := And.intro hb2 (And.intro hsz2 HO2)
      generalize zs.getD k 0 = z at hc1 HB2
      clear hc hl hlc HO hb2 HO2 hsz2 hb hsz HR
      go_wp2
      go_roundw
      case rel => exact ⟨k + 1, by omega, by go_num, HB2⟩
      case measure => simp [intOf]; omega
    · clear hb hsz HO
      go_wp2
      go_ret
      obtain rfl : k = n := by omega
      obtain ⟨hb, hsz, h3⟩ := HR.out
      rw [← Hn.out, List.take_length, Nat.sub_self, List.replicate_zero, List.append_nil] at h3
      exact ⟨rfl, hb, fun h0 => ⟨w.heap.size, 0, rfl, Nat.le_refl _, h3.lt, h3.lt, fun i hi => by rw [Nat.zero_add]; exact h3.cell i hi, fun i hi => h3.free _⟩⟩
theorem addr_of {w : World} {a : Addr} {i : Nat} {v : Value} (h : w.cell? (a.add i) = some v) (hi : i = 0) : ∃ b off, a = ⟨b, off, none⟩ ∧ b < w.heap.size := by
  subst hi
  obtain ⟨b, off, spot⟩ := a
  have hspot : spot = none := by simpa [Addr.add] using World.cell?_spot h
  subst hspot
  exact ⟨b, off, rfl, by simpa [Addr.add] using World.block_lt_of_cell? w _ h⟩
set_option maxRecDepth 100000 in
theorem ints_open {H : Type} {enc : TypeId × Value → H} {W : World} {base : Nat} {spare : Nat → Bool} {held : Bool} {fuel : Nat} {cs : List Value} {x : DataW H × List MemPlace}
    (h : DataW.trod enc Try.prog W base spare held fuel 39 cs = some x) : ∃ a zs c, cs = [.slice a (List.length zs) c] ∧ Seg .i64 W a zs ∧ zs.length ≤ 9223372036854775807 ∧ ∀ z ∈ zs, (Lit.int .i64 z).wf = true := by
  rcases open_slice1 (P := Try.prog) Try.underlying39 cells3 h with ⟨rfl, _⟩ | ⟨a, len, cap, m, n, V, D, Pl, rfl, hb, hl, hm, hmm, _, hx⟩
  · exact ⟨none, [], 0, rfl, fun h => absurd h (by simp), by simp, by simp⟩
  · have hlm : len ≤ m := by rw [hmm]; split <;> omega
    obtain ⟨Z, hZ⟩ := choose_lt (α := Int) (n := len) (p := fun i z => W.cell? (a.add i) = some (.int .i64 z) ∧ (Lit.int .i64 z).wf = true) (fun i hi => by
      obtain ⟨h0, t0⟩ := hx i (by omega)
      obtain ⟨z, e0, _, hw⟩ := DataW.trod_int (P := Try.prog) Try.underlying3 t0
      injection e0 with e0
      exact ⟨z, by rw [h0, e0], hw⟩)
    refine ⟨some a, (List.range len).map Z, cap, by simp, fun h0 => ?_, by simp only [List.length_map, List.length_range]; have : maxLen = 9223372036854775807 := rfl; omega, fun z hz => ?_⟩
    · simp only [List.length_map, List.length_range] at h0
      obtain ⟨b, off, rfl, hlt⟩ := addr_of (hZ 0 h0).1 rfl
      refine ⟨b, off, rfl, hlt, fun i hi => ?_⟩
      simp only [List.length_map, List.length_range] at hi
      have hg : ((List.range len).map Z).getD i 0 = Z i := by simp [List.getD, hi]
      rw [hg]
      have := (hZ i hi).1
      rw [add_plain] at this
      exact this
    · obtain ⟨i, hi, rfl⟩ := List.mem_map.1 hz
      exact (hZ i (List.mem_range.1 hi)).2

theorem ints_arg {H : Type} {enc : TypeId × Value → H} {W : World} {r : Reach} {b0 base : Nat} {spare : Nat → Bool} {held : Bool} {v : Value} {d : DataW H} {p : List MemPlace}
    (hv : Value.okWide Try.prog W r b0 39 v) (h : DataW.Trod enc Try.prog W base spare held 39 v d p) :
    ∃ a zs c, v = .slice a (List.length zs) c ∧ Seg .i64 W a zs ∧ zs.length ≤ 9223372036854775807 := by
  obtain ⟨a, len, cap, rfl⟩ := okWide_slice Try.underlying39 hv
  obtain ⟨fuel, hf⟩ := h
  obtain ⟨a', zs, c, e, hs, h1, _⟩ := ints_open hf
  simp [Value.cells] at e
  obtain ⟨rfl, rfl, rfl⟩ := e
  exact ⟨_, zs, _, rfl, hs, h1⟩
end Go.Proofs.Ytnjjjcmomjcmfaa
