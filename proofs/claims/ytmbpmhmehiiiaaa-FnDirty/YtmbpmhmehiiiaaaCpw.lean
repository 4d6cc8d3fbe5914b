
/-
  Rows of ways, copied by the program: in memory of their own. Conditions: rows and ways are at most 1048576 together.
-/
import Derived.Test.YtmbpmhmehiiiaaaRows
import Derived.Test.YtmbpmhmehiiiaaaWto
import Derived.Test.YtmbpmhmehiiiaaaCpk
namespace Go.Proofs.Ytmbpmhmehiiiaaa
open Go.ChangeShapes Go.WideShapes Go.ChangeAt Go.RowKit Go.Deep
set_option linter.unusedVariables false

def wyC (ws : List Wy) : List Value := (ws.map fun x => [Value.int .i64 x.1, .bool x.2]).flatten
theorem wyC_len : ∀ ws : List Wy, (wyC ws).length = ws.length * 2
  | [] => rfl
  | x :: r => by
    have := wyC_len r
    simp only [wyC, List.map_cons, List.flatten_cons, List.length_append, List.length_cons, List.length_nil] at this ⊢
    omega
theorem wyC_at : ∀ (ws : List Wy) (i : Nat), i < ws.length → (wyC ws)[i * 2]? = some (.int .i64 (ws.getD i wd).1) ∧ (wyC ws)[i * 2 + 1]? = some (.bool (ws.getD i wd).2)
  | [], i, h => absurd h (by simp)
  | x :: r, 0, _ => ⟨rfl, rfl⟩
  | x :: r, i + 1, h => by
    have := wyC_at r i (by simpa using h)
    have e : wyC (x :: r) = Value.int .i64 x.1 :: .bool x.2 :: wyC r := rfl
    rw [e, show (i + 1) * 2 = i * 2 + 1 + 1 by omega]
    simpa using this
theorem wyC_one (ws : List Wy) : ∀ u ∈ wyC ws, u.oneCell' = true := by
  intro u hu
  simp only [wyC, List.mem_flatten, List.mem_map] at hu
  obtain ⟨l, ⟨x, _, rfl⟩, hu⟩ := hu
  simp only [List.mem_cons, List.not_mem_nil, or_false] at hu
  rcases hu with rfl | rfl <;> rfl
theorem cp_ways (a : Option Addr) (n c : Nat) (ws : List Wy) (w : World) (hs : WSeg w a ws) (hl : ws.length = n) (hn : n ≤ 1048576) :
    Calls Try.prog 38 #[.slice a n c] w fun e w' => e = .returned (.slice (some ⟨w.heap.size, 0, none⟩) n n) ∧ Below w.heap.size w w' ∧ PairBlk w' w.heap.size 0 n n ws := by
  subst hl
  refine (cp_way a ws.length c (wyC ws) w (wyC_len ws) hn (fun h0 => ?_) (fun ad h0 e => ?_) (wyC_one ws)).mono fun e w' ⟨h1, h2, h3⟩ => ⟨h1, h2, ?_⟩
  · obtain ⟨b, off, e, hlt, hc⟩ := hs h0
    refine ⟨_, e, fun j v hj => ?_⟩
    have hj2 : j < ws.length * 2 := by rw [← wyC_len]; exact (List.getElem?_eq_some_iff.1 hj).1
    have hadd : (⟨b, off, none⟩ : Addr).add j = ⟨b, off + j, none⟩ := by unfold Addr.add; split <;> simp_all
    rw [hadd]
    obtain ⟨c1, c2⟩ := hc (j / 2) (by omega)
    obtain ⟨d1, d2⟩ := wyC_at ws (j / 2) (by omega)
    rcases Nat.mod_two_eq_zero_or_one j with m | m
    · have ej : j = j / 2 * 2 := by omega
      rw [← ej] at c1 d1
      rw [c1, ← d1, hj]
    · have ej : j = j / 2 * 2 + 1 := by omega
      rw [Nat.add_assoc, ← ej] at c2
      rw [← ej] at d2
      rw [c2, ← d2, hj]
  · obtain ⟨b, off, e', hlt, _⟩ := hs h0
    rw [e] at e'
    injection e' with e'
    subst e'
    exact hlt
  · have hcell : ∀ j v, (wyC ws)[j]? = some v → w'.cell? ⟨w.heap.size, j, none⟩ = some v := fun j v hj => by
      obtain ⟨hj1, hj2⟩ := List.getElem?_eq_some_iff.1 hj
      simp [World.cell?, h3, hj1, hj2]
    refine ⟨(Array.getElem?_eq_some_iff.1 h3).1, fun j => by simp [World.frozen?, h3], fun i hi => ?_, fun i hi => ?_⟩
    · obtain ⟨d1, d2⟩ := wyC_at ws i hi
      rw [Nat.zero_add]
      exact ⟨⟨_, hcell _ _ d1⟩, ⟨_, hcell _ _ d2⟩⟩
    · obtain ⟨d1, d2⟩ := wyC_at ws i hi
      rw [Nat.zero_add]
      exact ⟨hcell _ _ d1, hcell _ _ d2⟩
set_option maxHeartbeats 1000000 in
theorem cpl_ways (a : Option Addr) (cap n : Nat) (D : Nat → List Wy) (w : World) (hs : RSeg w a n D) (hn : n ≤ 1048576) (ht : tot D n ≤ 1048576) :
    Calls Try.prog 27 #[.slice a n cap] w fun e w' => e = .returned (.slice (some ⟨w.heap.size, 0, none⟩) n n) ∧ Below w.heap.size w w' ∧ ∃ m, Rsb w' w.heap.size m w.heap.size n n D := by
  have hmk := run_make_rows n hn
  have HS : Hid _ := And.intro hs ht
  clear hs ht
  go_enter Try.func27, Try.ntmps27
  go_wp2
  go_loopw [11] (fun i wr => ∃ k : Nat, k ≤ n ∧ i = .int .i64 k ∧ Hid (Below w.heap.size w wr ∧ ∃ m, Rsb wr w.heap.size m w.heap.size n k D)) (fun i _ => n - (intOf i).toNat)
  case atStart => exact ⟨0, by omega, rfl, (Below.refl _ _).alloc (Nat.le_refl _) _, _, Rsb.made w n 68 D⟩
  case round =>
    obtain ⟨k, hk, rfl, HB⟩ := hrel
    by_cases hlt : k < n
    · have hlt' : (k : Int) < (n : Int) := by omega
      obtain ⟨b1, o1, a1, cc, rfl, hbl1, e1, s1⟩ := RSeg.at (w := w) HS.out.1 k hlt
      obtain ⟨hb, m, hr⟩ := HB.out
      replace e1 := (hb.cell (p := ⟨b1, o1 + k, none⟩) hbl1).trans e1
      have HC : Hid (Calls Try.prog 38 #[.slice a1 (D k).length cc] wr fun e w' => e = .returned (.slice (some ⟨wr.heap.size, 0, none⟩) (D k).length (D k).length) ∧ Below wr.heap.size wr w' ∧ PairBlk w' wr.heap.size 0 (D k).length (D k).length (D k)) :=
        cp_ways a1 (D k).length cc (D k) wr (s1.below hb) rfl (Nat.le_trans (tot_row D hlt) HS.out.2)
      obtain ⟨len, HL⟩ : ∃ len, Hid ((D k).length = len) := ⟨_, rfl⟩
      have hm := hr.mle
      rw [HL.out] at e1 HC
      clear hbl1 s1 HB
      go_wp2_with fail
      refine HC.out.mono ?_
      rintro u w2 ⟨rfl, hbb, hpb⟩
      have hr2 := hr.below hbb
      have hb2 := hb.trans (hbb.mono hb.size)
      obtain ⟨u1, hu1⟩ := hr2.room k hlt
      have hf := hr2.free
      have hsz := hbb.size
      have hr3 := hr2.put hlt (some ⟨wr.heap.size, 0, none⟩) len wr.heap.size w2.heap.size (fun _ => hm) (hpb.ow HL.out _ _ hb.size hpb.lt) (by rw [HL.out]; exact Nat.le_refl _) (by omega) (Nat.le_refl _)
      rw [HL.out] at hr3
      have HB3 : Hid (Below w.heap.size w (w2.setCell ⟨w.heap.size, k, none⟩ (.slice (some ⟨wr.heap.size, 0, none⟩) len len)) ∧ ∃ m, Rsb (w2.setCell ⟨w.heap.size, k, none⟩ (.slice (some ⟨wr.heap.size, 0, none⟩) len len)) w.heap.size m w.heap.size n (k + 1) D) :=
        ⟨hb2.setCell (p := ⟨w.heap.size, k, none⟩) (Nat.le_refl _) _, _, hr3⟩
      clear hbb hpb hr2 hb2 hr3 hr hb e1 hm hsz HC
      go_wp2
      go_roundw
      case rel => exact ⟨k + 1, by omega, by go_num, HB3⟩
      case measure => simp [intOf]; omega
    · obtain rfl : k = n := by omega
      go_wp2
      go_ret
      obtain ⟨hb, m, hr⟩ := HB.out
      exact ⟨rfl, hb, m, hr⟩
end Go.Proofs.Ytmbpmhmehiiiaaa
