/-
  The op of a name: what the specification's and the program's own OpOf return, the same, at every text. Condition: the program's table of names lies in memory as the program's text lays it.
-/
import Derived.Test.YtdjapcfejmhjnaaGreatDoorNames
import Derived.Deep.MidRow
namespace Go.Proofs.YtdjapcfejmhjnaaGreatDoor
open Go.ChangeShapes Go.WideShapes Go.ChangeAt Go.RowKit
set_option linter.unusedVariables false
set_option maxRecDepth 20000
/-- Up to 'n' no op bears the name 's'. -/
def NoneUp (s : ByteArray) (n : Nat) : Prop := ∀ j, j < n → ((nm j).toList == s.toList) = false
theorem up_or (s : ByteArray) : ∀ n, NoneUp s n ∨ ∃ t, t < n ∧ ((nm t).toList == s.toList) = true ∧ NoneUp s t
  | 0 => .inl fun j hj => absurd hj (by omega)
  | n + 1 => by
    rcases up_or s n with h | ⟨t, ht, he, hn⟩
    · cases hq : ((nm n).toList == s.toList)
      · left
        intro j hj
        by_cases e : j = n
        · subst e; exact hq
        · exact h j (by omega)
      · exact .inr ⟨n, by omega, hq, h⟩
    · exact .inr ⟨t, by omega, he, hn⟩
set_option maxHeartbeats 400000 in
theorem spec_of_hit (s : ByteArray) (t : Nat) (w : World) (ht : t < 33) (hs : ((nm t).toList == s.toList) = true) (hn : NoneUp s t) : Calls Tryz.prog 86 #[.string s] w fun e w' => e = .returned (.int .i64 t) ∧ Below w.heap.size w w' := by
  have HS : Hid _ := hs
  have HN : Hid _ := hn
  clear hs hn
  go_enter Tryz.func86, Tryz.ntmps86
  go_wp2
  go_loopw [3] (fun i wr => ∃ k : Nat, k ≤ t ∧ i = .int .i64 k ∧ Below w.heap.size w wr) (fun i _ => 33 - (intOf i).toNat)
  case atStart => exact ⟨0, by omega, rfl, Below.refl _ _⟩
  case round =>
    obtain ⟨k, hk, rfl, hb⟩ := hrel
    go_wp2_with fail
    refine (spec_names _).mono ?_
    rintro e w2 ⟨rfl, hb2, hc⟩
    have hk' := hc k (by omega)
    have hb3 := hb.trans (hb2.mono hb.size)
    clear hc
    by_cases hkt : k < t
    · have hne := HN.out k hkt
      generalize nm k = x at hk' hne
      go_wp2
      go_roundw
      case rel => exact ⟨k + 1, by omega, by go_num, hb3⟩
      case measure => simp [intOf]; omega
    · obtain rfl : k = t := by omega
      have hne := HS.out
      clear HS HN
      generalize nm k = x at hk' hne
      go_wp2
      go_ret
      exact ⟨rfl, hb3⟩
set_option maxHeartbeats 400000 in
theorem spec_of_miss (s : ByteArray) (w : World) (hn : NoneUp s 33) : Calls Tryz.prog 86 #[.string s] w fun e w' => e = .returned (.int .i64 (-1)) ∧ Below w.heap.size w w' := by
  have HN : Hid _ := hn
  clear hn
  go_enter Tryz.func86, Tryz.ntmps86
  go_wp2
  go_loopw [3] (fun i wr => ∃ k : Nat, k ≤ 33 ∧ i = .int .i64 k ∧ Below w.heap.size w wr) (fun i _ => 33 - (intOf i).toNat)
  case atStart => exact ⟨0, by omega, rfl, Below.refl _ _⟩
  case round =>
    obtain ⟨k, hk, rfl, hb⟩ := hrel
    by_cases hkt : k < 33
    · go_wp2_with fail
      refine (spec_names _).mono ?_
      rintro e w2 ⟨rfl, hb2, hc⟩
      have hk' := hc k hkt
      have hb3 := hb.trans (hb2.mono hb.size)
      clear hc
      have hne := HN.out k hkt
      generalize nm k = x at hk' hne
      go_wp2
      go_roundw
      case rel => exact ⟨k + 1, by omega, by go_num, hb3⟩
      case measure => simp [intOf]; omega
    · go_wp2
      go_ret
      exact ⟨rfl, hb⟩
theorem i71 : (Tryz.prog.info? 125).map (·.size) = some 33 := by kernel_rfl
theorem range_names {w : World} (ht : TabN w) : ∃ cs : List Value, cs.length = 33 ∧ (∀ i, i < 33 → cs[i]? = some (.string (nm i))) ∧ w.rangeAt 2 0 cs := by
  have e : ∀ i, i < 33 → (strs names)[i]? = some (.string (nm i)) := fun i hi => by
    have hl : i < names.length := hi
    simp [nm, hl]
  refine ⟨strs names, rfl, e, fun j v h => ?_⟩
  have hj : j < 33 := by
    obtain ⟨hj, _⟩ := List.getElem?_eq_some_iff.1 h
    simpa [names] using hj
  rw [e j hj] at h
  rw [Nat.zero_add, ht j hj]
  exact h
theorem index_names (cs : List Value) (k : Nat) (v : Value) (w : World) (hk : k < 33) (h : cs[k]? = some v) : (Instr.index 125 (.agg cs.toArray) (.int .i64 k)).run Tryz.prog w = .ok v w := by
  have h1 : (0 : Int) ≤ (k : Int) ∧ (k : Int) < ((33 : Nat) : Int) := by omega
  simp [Instr.index, run_underlying Tryz.underlying125, asIntOf, part, h1, h, go_sem, Tryz.isAgg9, Tryz.sizeOf9]
  exact fun h2 => absurd h2 (by omega)
set_option maxHeartbeats 400000 in
theorem impl_of_hit (s : ByteArray) (t : Nat) (w : World) (hT : TabN w) (ht : t < 33) (hs : ((nm t).toList == s.toList) = true) (hn : NoneUp s t) : Calls Tryz.prog 101 #[.string s] w fun e w' => e = .returned (.int .i64 t) ∧ w' = w := by
  have HS : Hid _ := hs
  have HN : Hid _ := hn
  obtain ⟨cs, hl, hcs, hr⟩ := range_names hT
  have HL : Hid _ := hl
  have HC : Hid _ := hcs
  have HR : Hid _ := hr
  clear hs hn hl hcs hr hT
  go_enter Tryz.func101, Tryz.ntmps101
  go_wp2_with (refine wpList_load_mid rfl 125 (.global 2) rfl 2 0 rfl cs _ HR.out Tryz.underlying125 rfl (by rw [i71, HL.out]) ?_)
  go_loop [6] (fun i => ∃ k : Nat, k ≤ t ∧ i = .int .i64 k) (fun i => 33 - (intOf i).toNat)
  case atStart => exact ⟨0, by omega, rfl⟩
  case round =>
    obtain ⟨k, hk, rfl⟩ := hrel
    have hc := HC.out k (by omega)
    by_cases hkt : k < t
    · have hne := HN.out k hkt
      generalize nm k = x at hc hne
      have hx := index_names cs k _ w (by omega) hc
      clear hc
      go_wp2
      go_round
      case rel => exact ⟨k + 1, by omega, by go_num⟩
      case measure => simp [intOf]; omega
    · obtain rfl : k = t := by omega
      have hne := HS.out
      clear HS HN
      generalize nm k = x at hc hne
      have hx := index_names cs k _ w (by omega) hc
      clear hc
      go_wp2
      go_ret
      exact ⟨rfl, rfl⟩
set_option maxHeartbeats 400000 in
theorem impl_of_miss (s : ByteArray) (w : World) (hT : TabN w) (hn : NoneUp s 33) : Calls Tryz.prog 101 #[.string s] w fun e w' => e = .returned (.int .i64 (-1)) ∧ w' = w := by
  have HN : Hid _ := hn
  obtain ⟨cs, hl, hcs, hr⟩ := range_names hT
  have HL : Hid _ := hl
  have HC : Hid _ := hcs
  have HR : Hid _ := hr
  clear hn hl hcs hr hT
  go_enter Tryz.func101, Tryz.ntmps101
  go_wp2_with (refine wpList_load_mid rfl 125 (.global 2) rfl 2 0 rfl cs _ HR.out Tryz.underlying125 rfl (by rw [i71, HL.out]) ?_)
  go_loop [6] (fun i => ∃ k : Nat, k ≤ 33 ∧ i = .int .i64 k) (fun i => 33 - (intOf i).toNat)
  case atStart => exact ⟨0, by omega, rfl⟩
  case round =>
    obtain ⟨k, hk, rfl⟩ := hrel
    by_cases hkt : k < 33
    · have hc := HC.out k hkt
      have hne := HN.out k hkt
      generalize nm k = x at hc hne
      have hx := index_names cs k _ w hkt hc
      clear hc
      go_wp2
      go_round
      case rel => exact ⟨k + 1, by omega, by go_num⟩
      case measure => simp [intOf]; omega
    · go_wp2
      go_ret
      exact ⟨rfl, rfl⟩
end Go.Proofs.YtdjapcfejmhjnaaGreatDoor
