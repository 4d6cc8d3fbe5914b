/-
  What the program's 'registers' returns: the registers that a form names, ascending, each once, without 0, in memory of the call's own. Conditions: the fields are registers.
-/
import Derived.Test.YtiekejplgoomfabDoorLists
import Derived.Test.YtiekejplgoomfabDoorIsa
import Derived.Test.YtiekejplgoomfabDoorShelf
import Derived.Test.YtiekejplgoomfabDoorSets
import Derived.Sort.OwnSortedInts
import Derived.Lib.OwnBridge
namespace Go.Proofs.YtiekejplgoomfabDoor
open Go.ChangeShapes Go.WideShapes Go.ChangeAt Go.RowKit Go.Sort
set_option linter.unusedVariables false

theorem sort_any (blk cap : Nat) (zs : List Int) (w : World) (hH : Holds (Value.int .i64) w blk 0 zs.toArray) (hlt : blk < w.heap.size) (hsz : zs.length ≤ 1048576) :
    Calls Tryd.prog 23 #[.slice (some ⟨blk, 0, none⟩) zs.length cap] w fun e w' => e = .returned (.tuple #[]) ∧ Holds (Value.int .i64) w' blk 0 (sorted zs).toArray ∧ Below blk w w' := by
  refine (Tryd.slices_Sort_int blk 0 cap zs w hH hlt (by omega)).mono ?_
  rintro e w' ⟨rfl, n, os, rfl⟩
  refine ⟨rfl, ?_, ?_⟩
  · exact holds_grow _ _ os blk 0 _ (by simpa [putRow, mapBlock, Sort.ahead] using hlt) (holds_putRow _ _ blk 0 _ _ (holds_ahead _ w n blk 0 _ hH) (by simp))
  · exact (Below.refl blk w).grown (grownBy_sortedI _) (by omega) (fun j hj => by cases hj; exact Nat.le_refl _)
theorem compact_any (blk cap : Nat) (zs : List Int) (w : World) (hH : Holds (Value.int .i64) w blk 0 zs.toArray) (hlt : blk < w.heap.size) (hsz : zs.length ≤ 1048576) (hcap : zs.length ≤ cap) :
    Calls Tryd.prog 24 #[.slice (some ⟨blk, 0, none⟩) zs.length cap] w fun e w' => e = .returned (.slice (some ⟨blk, 0, none⟩) (Lib.compact zs).length cap) ∧ Holds (Value.int .i64) w' blk 0 (Lib.compact zs ++ List.replicate (zs.length - (Lib.compact zs).length) 0).toArray ∧ Below blk w w' := by
  have hle := Lib.compact_length_le zs
  refine (Tryd.slices_Compact_int blk 0 cap zs w hH (by omega) hcap).mono ?_
  rintro e w' ⟨rfl, q, rfl⟩
  refine ⟨rfl, ?_, ?_⟩
  · exact holds_putRow _ _ blk 0 _ _ (holds_ahead _ w q blk 0 _ hH) (by simp; omega)
  · exact Lib.below_putRow (Below.refl blk w) (Nat.le_refl _)
theorem cells3 {w : World} {B : Nat} {L : List Int} {n : Nat} (h : Holds (Value.int .i64) w B 0 (L ++ List.replicate (n - L.length) 0).toArray) (i : Nat) (hi : i < L.length) :
    w.cell? ⟨B, i, none⟩ = some (.int .i64 (L.getD i 0)) ∧ w.frozen? ⟨B, i, none⟩ = false := by
  obtain ⟨h1, h2⟩ := h i (by simp; omega)
  rw [Nat.zero_add] at h1 h2
  refine ⟨?_, h2⟩
  rw [h1, List.getElem!_toArray, List.getElem!_eq_getElem?_getD, List.getElem?_append_left hi]
  rfl
theorem holds_new (W : World) (x y z : Int) (B : Nat) (hB : W.heap.size = B) : Holds (Value.int .i64) (W.alloc (.cells #[.int .i64 x, .int .i64 y, .int .i64 z] 3)) B 0 [x, y, z].toArray := by
  subst hB
  have h := World.rowIs_alloc W #[.int .i64 x, .int .i64 y, .int .i64 z] 3 (fun i => .int .i64 ([x, y, z].getD i 0)) (by
    intro i hi
    match i, hi with
    | 0, _ => rfl
    | 1, _ => rfl
    | 2, _ => rfl)
  intro j hj
  rw [Nat.zero_add]
  refine ⟨?_, h.frozen j⟩
  have hj' : j < 3 := hj
  rw [h.cell (show j < (#[Value.int .i64 x, .int .i64 y, .int .i64 z] : Array Value).size from hj')]
  match j, hj' with
  | 0, _ => rfl
  | 1, _ => rfl
  | 2, _ => rfl
theorem getD_tail (L : List Int) (i : Nat) : L.tail.getD i 0 = L.getD (i + 1) 0 := by
  cases L <;> simp
set_option maxHeartbeats 1000000 in
theorem regs_zero (op a b c m f x y z h : Int) (L : List Int) (n : Nat) (w : World) (hx : kp f 1 a = x) (hy : kp f 2 b = y) (hz : kp f 4 c = z)
    (HL : Hid (Lib.compact (sorted [x, y, z]) = L)) (Hn : Hid (L.length = n)) (hn1 : 1 ≤ n) (hn3 : n ≤ 3) (HH : Hid (L.getD 0 0 = h)) (hq : (h == 0) = true) :
    Calls Tryd.prog 17 #[ins op a b c m, .int .i64 f] w fun e w' => ∃ ad cap, e = .returned (.slice ad (n - 1) cap) ∧ OwnAt w' w.heap.size ad L.tail ∧ Below w.heap.size w w' := by
  have HK : Hid _ := fun w => kept op a b c m f w
  rw [hx, hy, hz] at HK
  generalize kp f 8 m = M at HK
  clear hx hy hz
  go_enter Tryd.func17, Tryd.ntmps17
  go_wp2_with fail
  refine (HK.out _).mono ?_
  rintro e w1 ⟨rfl, rfl⟩
  go_wp2_with fail
  refine (sort_any (w.heap.size + 1 + 1 + 1) 3 [x, y, z] _ (holds_new _ x y z _ (by simp)) (by simp) (by simp)).mono ?_
  rintro e w2 ⟨rfl, hH2, hb2⟩
  have hs3 : (sorted [x, y, z]).length = 3 := by simp [sorted]
  have hbW : Below w.heap.size w ((((w.alloc (row op x y z M)).alloc (row op x y z M)).alloc (row op x y z M)).alloc (.cells #[.int .i64 x, .int .i64 y, .int .i64 z] 3)) :=
    ((((Below.refl _ w).alloc (Nat.le_refl _) _).alloc (by simp) _).alloc (by simp; omega) _).alloc (by simp; omega) _
  have hb2' := hbW.trans (hb2.mono (by omega))
  have hlt2 : w.heap.size + 1 + 1 + 1 < w2.heap.size := Nat.lt_of_lt_of_le (by simp) hb2.size
  generalize sorted [x, y, z] = ss at HL hH2 hs3
  generalize hBq : w.heap.size + 1 + 1 + 1 = B at hH2 hb2 hlt2 ⊢
  have hBg : w.heap.size ≤ B := by omega
  have hc := compact_any B 3 ss w2 hH2 hlt2 (by omega) (by omega)
  rw [HL.out, Hn.out, hs3] at hc
  clear hb2 hbW hBq hH2 hs3
  go_wp2_with fail
  refine hc.mono ?_
  rintro e w3 ⟨rfl, hH3, hb3⟩
  have hlt3 : B < w3.heap.size := Nat.lt_of_lt_of_le hlt2 hb3.size
  have hb3' := hb2'.trans (hb3.mono hBg)
  rw [← Hn.out] at hH3
  have H3 : Hid _ := fun i hi => cells3 hH3 i hi
  have h0 := (H3.out 0 (by rw [Hn.out]; omega)).1
  rw [HH.out] at h0
  clear hc hb3 hb2' hH3 hlt2
  go_wp2
  go_ret
  refine ⟨_, _, rfl, fun hl => ⟨B, 1, rfl, hBg, hlt3, fun i hi => ?_, fun i hi => ?_⟩, hb3'⟩
  · rw [List.length_tail] at hi
    rw [getD_tail, Nat.add_comm 1 i]
    exact (H3.out (i + 1) (by omega)).1
  · rw [List.length_tail] at hi
    rw [Nat.add_comm 1 i]
    exact (H3.out (i + 1) (by omega)).2
set_option maxHeartbeats 1000000 in
theorem regs_some (op a b c m f x y z h : Int) (L : List Int) (n : Nat) (w : World) (hx : kp f 1 a = x) (hy : kp f 2 b = y) (hz : kp f 4 c = z)
    (HL : Hid (Lib.compact (sorted [x, y, z]) = L)) (Hn : Hid (L.length = n)) (hn1 : 1 ≤ n) (hn3 : n ≤ 3) (HH : Hid (L.getD 0 0 = h)) (hq : (h == 0) = false) :
    Calls Tryd.prog 17 #[ins op a b c m, .int .i64 f] w fun e w' => ∃ ad cap, e = .returned (.slice ad n cap) ∧ OwnAt w' w.heap.size ad L ∧ Below w.heap.size w w' := by
  have HK : Hid _ := fun w => kept op a b c m f w
  rw [hx, hy, hz] at HK
  generalize kp f 8 m = M at HK
  clear hx hy hz
  go_enter Tryd.func17, Tryd.ntmps17
  go_wp2_with fail
  refine (HK.out _).mono ?_
  rintro e w1 ⟨rfl, rfl⟩
  go_wp2_with fail
  refine (sort_any (w.heap.size + 1 + 1 + 1) 3 [x, y, z] _ (holds_new _ x y z _ (by simp)) (by simp) (by simp)).mono ?_
  rintro e w2 ⟨rfl, hH2, hb2⟩
  have hs3 : (sorted [x, y, z]).length = 3 := by simp [sorted]
  have hbW : Below w.heap.size w ((((w.alloc (row op x y z M)).alloc (row op x y z M)).alloc (row op x y z M)).alloc (.cells #[.int .i64 x, .int .i64 y, .int .i64 z] 3)) :=
    ((((Below.refl _ w).alloc (Nat.le_refl _) _).alloc (by simp) _).alloc (by simp; omega) _).alloc (by simp; omega) _
  have hb2' := hbW.trans (hb2.mono (by omega))
  have hlt2 : w.heap.size + 1 + 1 + 1 < w2.heap.size := Nat.lt_of_lt_of_le (by simp) hb2.size
  generalize sorted [x, y, z] = ss at HL hH2 hs3
  generalize hBq : w.heap.size + 1 + 1 + 1 = B at hH2 hb2 hlt2 ⊢
  have hBg : w.heap.size ≤ B := by omega
  have hc := compact_any B 3 ss w2 hH2 hlt2 (by omega) (by omega)
  rw [HL.out, Hn.out, hs3] at hc
  clear hb2 hbW hBq hH2 hs3
  go_wp2_with fail
  refine hc.mono ?_
  rintro e w3 ⟨rfl, hH3, hb3⟩
  have hlt3 : B < w3.heap.size := Nat.lt_of_lt_of_le hlt2 hb3.size
  have hb3' := hb2'.trans (hb3.mono hBg)
  rw [← Hn.out] at hH3
  have H3 : Hid _ := fun i hi => cells3 hH3 i hi
  have h0 := (H3.out 0 (by rw [Hn.out]; omega)).1
  rw [HH.out] at h0
  clear hc hb3 hb2' hH3 hlt2
  go_wp2
  go_ret
  refine ⟨_, _, rfl, fun hl => ⟨B, 0, rfl, hBg, hlt3, fun i hi => ?_, fun i hi => ?_⟩, hb3'⟩
  · rw [Nat.zero_add]
    exact (H3.out i hi).1
  · rw [Nat.zero_add]
    exact (H3.out i hi).2
theorem regs_any (op a b c m f x y z : Int) (w : World) (hx : kp f 1 a = x) (hy : kp f 2 b = y) (hz : kp f 4 c = z) (h1 : 0 ≤ x) (h2 : x ≤ 15) (h3 : 0 ≤ y) (h4 : y ≤ 15) (h5 : 0 ≤ z) (h6 : z ≤ 15) :
    Calls Tryd.prog 17 #[ins op a b c m, .int .i64 f] w fun e w' => ∃ ad cap, e = .returned (.slice ad (setOf [x, y, z]).length cap) ∧ OwnAt w' w.heap.size ad (setOf [x, y, z]) ∧ Below w.heap.size w w' := by
  rw [← regs_eq x y z h1 h2 h3 h4 h5 h6]
  obtain ⟨l1, l2⟩ := len_eq x y z h1 h2 h3 h4 h5 h6
  unfold regs
  cases hq : ((Lib.compact (sorted [x, y, z])).getD 0 0 == 0)
  · exact regs_some op a b c m f x y z _ _ _ w hx hy hz rfl rfl l1 l2 rfl hq
  · have := regs_zero op a b c m f x y z _ _ _ w hx hy hz rfl rfl l1 l2 rfl hq
    rw [if_pos rfl, List.length_tail]
    exact this
end Go.Proofs.YtiekejplgoomfabDoor
