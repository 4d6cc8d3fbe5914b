
/-
  A strings.Builder that the call made, its buffer told: what WriteString of this program does to it, and that no other block is another. Conditions: the builder is one of the call's own; its length stays below Go's limit.
-/
import Derived.Test.YtmnoghhdkdjnmaaGreatDoorBas
import Derived.Test.YtmnoghhdkdjnmaaGreatDoorBld
import Derived.Test.YtmnoghhdkdjnmaaGreatDoorFlk2
import Derived.Lib.AppendZeros
namespace Go.Proofs.YtmnoghhdkdjnmaaGreatDoor
open Go.ChangeShapes Go.WideShapes Go.ChangeAt Go.RowKit Go.Shelf
set_option linter.unusedVariables false
set_option maxRecDepth 100000

/-- Where the buffer lies behind an append: where it lay, or in a new block. -/
theorem app_told (w : World) (base : Nat) (v : Value) (n : Nat) (xs : List Value) (hown : w.ownsRow base 5 1 v n xs) (s : ByteArray) (h63 : n + s.size ≤ maxLen) (hb : n + s.size ≤ 140737488355328) (v' : Value) (w' : World)
    (hr : (Builtin.append_ #[79, 9] 79 #[v, .string s]).run Tryz.prog w = .ok v' w') (hiff : v' = .slice none 0 0 ↔ v = .slice none 0 0 ∧ s.size = 0) : ∀ k, v'.ownBlock = some k → v.ownBlock = some k ∨ k = w.heap.size := by
  obtain ⟨i0, hi, hz0, hz1, hz2⟩ := info_parts byteInfo
  have hsmall : n + s.size ≤ 9223372036854775807 := by simp only [maxLen] at h63; omega
  have hxl : xs.length = n := by simpa using hown.1
  intro k hk
  rcases hown.2 with ⟨rfl, rfl⟩ | ⟨g, cap, cur, rfl, hbg, hg, hnc, hcm, hcs, htake⟩
  · by_cases hm : s.size = 0
    · rw [hiff.2 ⟨rfl, hm⟩] at hk
      simp [Value.ownBlock] at hk
    · have h2 := run_append_nil_string (P := Tryz.prog) w 79 9 79 5 i0 (.int .u8 0) Tryz.underlying79 Tryz.underlying9 hi hz0 s (by omega) (by omega) (by rw [hz2]; omega)
      rw [hr] at h2
      injection h2 with h3 h4
      rw [h3] at hk
      simp [Value.ownBlock] at hk
      exact .inr hk.symm
  · by_cases hroom : n + s.size ≤ cap
    · have hcs' : cur.size = cap := by simpa using hcs
      have h2 := Lib.run_append_room_string (P := Tryz.prog) w 79 9 79 5 i0 Tryz.underlying79 Tryz.underlying9 hi hz1 g n cap cur hg s hroom (by omega)
      rw [hr] at h2
      injection h2 with h3 h4
      rw [h3] at hk
      exact .inl hk
    · have holds : ∀ j u, xs[j]? = some u → w.cell? ((⟨g, 0, none⟩ : Addr).add j) = some u := hown.cells (g := g) rfl
      have h2 := Lib.run_append_grow_string (P := Tryz.prog) w 79 9 79 5 i0 (.int .u8 0) Tryz.underlying79 Tryz.underlying9 hi hz0 ⟨g, 0, none⟩ n cap xs (by rw [hz1]; simpa using hxl) holds s (by omega) (by omega) (by rw [hz2]; exact growslice_fits (by omega) (by omega))
      rw [hr] at h2
      injection h2 with h3 h4
      rw [h3] at hk
      simp [Value.ownBlock] at hk
      exact .inr hk.symm
/-- A builder at b whose buffer is v. -/
structure Bu (w : World) (b : Nat) (v : Value) (bs : List Value) : Prop where
  i : ∃ p, (p = .pointer none ∨ p = .pointer (some ⟨b, 0, none⟩)) ∧ w.heap[b]? = some (.cells #[p, v] 81 (0, 0))
  o : w.ownsRow b 5 1 v bs.length bs
  n : v.ownBlock ≠ some b
theorem Bu.is {w : World} {b : Nat} {v : Value} {bs : List Value} (h : Bu w b v bs) : Lib.IsBuilder 81 5 b b bs w := by
  obtain ⟨p, hp, hh⟩ := h.i
  rcases hp with rfl | rfl
  · exact .inl ⟨Nat.le_refl _, v, hh, h.o, h.n⟩
  · exact .inr ⟨Nat.le_refl _, v, hh, h.o, h.n⟩
theorem Bu.lt {w : World} {b : Nat} {v : Value} {bs : List Value} (h : Bu w b v bs) : b < w.heap.size := by
  obtain ⟨p, hp, hh⟩ := h.i
  rcases Nat.lt_or_ge b w.heap.size with g | g
  · exact g
  · rw [Array.getElem?_eq_none g] at hh; cases hh
theorem Bu.below {w w' : World} {b : Nat} {v : Value} {bs : List Value} (h : Bu w b v bs) (hb : Below w.heap.size w w') : Bu w' b v bs := by
  obtain ⟨p, hp, hh⟩ := h.i
  exact ⟨⟨p, hp, (hb.block b h.lt).trans hh⟩, owns_below h.o hb, h.n⟩
theorem Bu.new (w : World) (b : Nat) (hb : b = w.heap.size) : Bu (w.alloc (.cells #[.pointer none, .slice none 0 0] 81)) b (.slice none 0 0) [] := by
  subst hb
  exact ⟨⟨_, .inl rfl, by show (w.heap.push _)[w.heap.size]? = _; simp⟩, World.ownsRow_nil _ _ _ _, by simp [Value.ownBlock]⟩
set_option maxHeartbeats 2000000 in
theorem write_told (b : Nat) (v : Value) (bs : List Value) (s : ByteArray) (w : World) (h : Bu w b v bs) (hlen : bs.length + s.size ≤ 140737488355328) :
    Calls Tryz.prog 34 #[.pointer (some ⟨b, 0, none⟩), .string s] w fun e w' => e = .returned (.tuple #[.int .i64 s.size, .nilIface]) ∧ ∃ v', Bu w' b v' (bs ++ Lib.strCells s) ∧ Below b w w' ∧ (∀ k, k < w.heap.size → k ≠ b → v.ownBlock ≠ some k → w'.heap[k]? = w.heap[k]?) ∧ (∀ k, v'.ownBlock = some k → v.ownBlock = some k ∨ w.heap.size ≤ k) := by
  obtain ⟨i0, hi, hz0, hz1, hz2⟩ := info_parts byteInfo
  have HH : Hid (Bu w b v bs) := h
  have HCK : Hid (Calls Tryz.prog 68 #[.pointer (some ⟨b, 0, none⟩)] w fun e w' => e = .returned (.tuple #[]) ∧ w'.heap[b]? = some (.cells #[.pointer (some ⟨b, 0, none⟩), v] 81 (0, 0)) ∧ (∀ k, k ≠ b → w'.heap[k]? = w.heap[k]?) ∧ Below b w w' ∧ w'.heap.size = w.heap.size) := by
    obtain ⟨p, hp, hh⟩ := h.i
    rcases hp with rfl | rfl
    · have hbA : Lib.BuilderAt 81 5 b b (.pointer none) bs w := ⟨Nat.le_refl _, v, hh, h.o, h.n⟩
      refine (check_fresh b w hbA.cell0 hbA.shape hbA.frozen0).mono ?_
      rintro e w' ⟨rfl, rfl⟩
      refine ⟨rfl, ?_, fun k hk => set_block w ⟨b, 0, none⟩ _ k hk, (Below.refl b w).setCell (p := ⟨b, 0, none⟩) (Nat.le_refl _) _, by simp⟩
      simp [World.setCell, Array.getElem?_modify, hh]
    · have hbA : Lib.BuilderAt 81 5 b b (.pointer (some ⟨b, 0, none⟩)) bs w := ⟨Nat.le_refl _, v, hh, h.o, h.n⟩
      refine (check_used b w hbA.cell0).mono ?_
      rintro e w' ⟨rfl, rfl⟩
      exact ⟨rfl, hh, fun _ _ => rfl, Below.refl _ _, rfl⟩
  clear h
  go_enter Tryz.func34, Tryz.ntmps34
  go_wp2_with fail
  refine HCK.out.mono ?_
  rintro e w1 ⟨rfl, hbk, hoth, hb1, hsz⟩
  have c0 : w1.cell? ⟨b, 0, none⟩ = some (.pointer (some ⟨b, 0, none⟩)) := by rw [Lib.cell_of_heap hbk]; rfl
  have c1 : w1.cell? ⟨b, 1, none⟩ = some v := by rw [Lib.cell_of_heap hbk]; rfl
  have hown : w1.ownsRow b 5 1 v bs.length bs := owns_keep HH.out.o fun k hk => hoth k (fun e => HH.out.n (by rw [hk, e]))
  obtain ⟨v', w2, hr, hown', hgrow, hiff⟩ := Lib.run_append_own_string (P := Tryz.prog) w1 b 79 9 79 5 i0 Tryz.underlying79 Tryz.underlying9 hi hz0 hz1 hz2 v bs.length bs hown s (by unfold maxLen; omega) hlen (by have := HH.out.lt; omega)
  have HTD : Hid (∀ k, v'.ownBlock = some k → v.ownBlock = some k ∨ k = w1.heap.size) := app_told w1 b v bs.length bs hown s (by unfold maxLen; omega) hlen v' w2 hr hiff
  have hlt : b < w1.heap.size := by rw [hsz]; exact HH.out.lt
  have hb2 : w2.heap[b]? = some (.cells #[.pointer (some ⟨b, 0, none⟩), v] 81 (0, 0)) := by
    rw [hgrow.block b hlt (fun e => HH.out.n e.symm)]
    exact hbk
  have d0 : w2.cell? ⟨b, 0, none⟩ = some (.pointer (some ⟨b, 0, none⟩)) := by rw [Lib.cell_of_heap hb2]; rfl
  have d1 : w2.cell? ⟨b, 1, none⟩ = some v := by rw [Lib.cell_of_heap hb2]; rfl
  have f1 : w2.frozen? ⟨b, 1, none⟩ = false := Lib.frozen_of_heap hb2 1
  obtain ⟨ao, n', cap, rfl⟩ : ∃ ao n' cap, v' = .slice ao n' cap := by
    rcases hown'.2 with ⟨hv, _⟩ | ⟨g, cap, cur, hv, _⟩
    · exact ⟨_, _, _, hv⟩
    · exact ⟨_, _, _, hv⟩
  have HE : Hid (Bu (w2.setCell ⟨b, 1, none⟩ (.slice ao n' cap)) b (.slice ao n' cap) (bs ++ Lib.strCells s) ∧ Below b w (w2.setCell ⟨b, 1, none⟩ (.slice ao n' cap)) ∧ (∀ k, k < w.heap.size → k ≠ b → v.ownBlock ≠ some k → (w2.setCell ⟨b, 1, none⟩ (.slice ao n' cap)).heap[k]? = w.heap[k]?)) := by
    have hp := Lib.BuilderAt.put (T := 81) (e := 5) (Nat.le_refl b) hb2 (v' := .slice ao n' cap) (bs' := bs ++ Lib.strCells s) (by simpa [Lib.strCells_length] using hown') (by decide)
    obtain ⟨_, v2, g1, g2, g3⟩ := hp
    have hv : v2 = .slice ao n' cap := by
      have : (w2.setCell ⟨b, 1, none⟩ (.slice ao n' cap)).heap[b]? = some (.cells #[.pointer (some ⟨b, 0, none⟩), .slice ao n' cap] 81 (0, 0)) := by simp [World.setCell, Array.getElem?_modify, hb2]
      rw [this] at g1
      simp at g1
      exact g1.symm
    subst hv
    refine ⟨⟨⟨_, .inr rfl, g1⟩, g2, g3⟩, (hb1.grown hgrow (by have := hb1.size; omega) (fun k hk => (owns_lt hown k hk).1)).setCell (p := ⟨b, 1, none⟩) (Nat.le_refl _) _, fun k hk1 hk2 hk3 => ?_⟩
    rw [set_block _ _ _ _ hk2, hgrow.block k (by omega) (fun e => hk3 e.symm), hoth k hk2]
  have HSZ : Hid (w1.heap.size = w.heap.size) := hsz
  clear hown' hgrow hb1 hoth hsz hlt hbk hb2 hown hiff HCK
  go_wp2_with (at_builtin; refine Lib.wpList_append_run _ rfl _ _ _ _ rfl _ _ rfl rfl _ _ hr ?_)
  go_ret2
  exact ⟨rfl, _, HE.out.1, HE.out.2.1, HE.out.2.2, fun k hk => by rcases HTD.out k hk with g | g; exact .inl g; exact .inr (by rw [g, HSZ.out]; exact Nat.le_refl _)⟩
end Go.Proofs.YtmnoghhdkdjnmaaGreatDoor
