
/-
  A list of rows of bytes, copied by the program: in memory of its own. Conditions: rows and bytes are at most 1048576 together.
-/
import Derived.Test.YtanffdedignegaaBas
import Derived.Test.YtanffdedignegaaProg
import Derived.Test.YtanffdedignegaaGrw
import Derived.Test.YtanffdedignegaaCpk
namespace Go.Proofs.Ytanffdedignegaa
open Go.ChangeShapes Go.WideShapes Go.ChangeAt Go.RowKit Go.Deep
set_option linter.unusedVariables false

set_option maxHeartbeats 1000000 in
theorem cpl_bytes (a : Option Addr) (cap n : Nat) (D : Nat → List Int) (w : World) (hs : BSeg w a n D) (hn : n ≤ 1048576) (ht : btot D n ≤ 1048576) :
    Calls Try.prog 36 #[.slice a n cap] w fun e w' => e = .returned (.slice (some ⟨w.heap.size, 0, none⟩) n n) ∧ Below w.heap.size w w' ∧ BRows w' w.heap.size w'.heap.size (some ⟨w.heap.size, 0, none⟩) n D := by
  have hmk := run_make_rows n hn
  have HS : Hid _ := And.intro hs ht
  clear hs ht
  go_enter Try.func36, Try.ntmps36
  go_wp2
  go_loopw [11] (fun i wr => ∃ k : Nat, k ≤ n ∧ i = .int .i64 k ∧ Hid (Below w.heap.size w wr ∧ ∃ m, Bsb wr w.heap.size m w.heap.size n k D)) (fun i _ => n - (intOf i).toNat)
  case atStart => exact ⟨0, by omega, rfl, (Below.refl _ _).alloc (Nat.le_refl _) _, _, Bsb.made w n 22 D⟩
  case round =>
    obtain ⟨k, hk, rfl, HB⟩ := hrel
    by_cases hlt : k < n
    · have hlt' : (k : Int) < (n : Int) := by omega
      obtain ⟨b1, o1, a1, cc, rfl, hbl1, e1, s1⟩ := BSeg.at (w := w) HS.out.1 k hlt
      obtain ⟨hb, m, hr⟩ := HB.out
      replace e1 := (hb.cell (p := ⟨b1, o1 + k, none⟩) hbl1).trans e1
      have HC : Hid (Calls Try.prog 55 #[.slice a1 (D k).length cc] wr fun e w' => e = .returned (.slice (some ⟨wr.heap.size, 0, none⟩) (D k).length (D k).length) ∧ Below wr.heap.size wr w' ∧ Own .u8 w' wr.heap.size (D k)) :=
        cp_u8s a1 (D k).length cc (D k) wr (s1.below hb) rfl (Nat.le_trans (btot_row D hlt) HS.out.2)
      obtain ⟨len, HL⟩ : ∃ len, Hid ((D k).length = len) := ⟨_, rfl⟩
      have hm := hr.mle
      rw [HL.out] at e1 HC
      clear hbl1 s1 HB
      go_wp2_with fail
      refine HC.out.mono ?_
      rintro u w2 ⟨rfl, hbb, hpb⟩
      have hr2 := hr.below hbb
      have hb2 := hb.trans (hbb.mono hb.size)
      obtain ⟨u1, hu1⟩ := hr2.room k hlt
      have hf := hr2.free
      have hsz := hbb.size
      have hr3 := hr2.put hlt (some ⟨wr.heap.size, 0, none⟩) len wr.heap.size w2.heap.size (fun _ => hm) (ON.own hpb hb.size hpb.lt) (by rw [HL.out]; exact Nat.le_refl _) (by omega) (Nat.le_refl _)
      rw [HL.out] at hr3
      have HB3 : Hid (Below w.heap.size w (w2.setCell ⟨w.heap.size, k, none⟩ (.slice (some ⟨wr.heap.size, 0, none⟩) len len)) ∧ ∃ m, Bsb (w2.setCell ⟨w.heap.size, k, none⟩ (.slice (some ⟨wr.heap.size, 0, none⟩) len len)) w.heap.size m w.heap.size n (k + 1) D) :=
        ⟨hb2.setCell (p := ⟨w.heap.size, k, none⟩) (Nat.le_refl _) _, _, hr3⟩
      clear hbb hpb hr2 hb2 hr3 hr hb e1 hm hsz HC
      go_wp2
      go_roundw
      case rel => exact ⟨k + 1, by omega, by go_num, HB3⟩
      case measure => simp [intOf]; omega
    · obtain rfl : k = n := by omega
      go_wp2
      go_ret
      obtain ⟨hb, m, hr⟩ := HB.out
      exact ⟨rfl, hb, hr.rows'.wide (Nat.le_refl _) hr.mle⟩
end Go.Proofs.Ytanffdedignegaa
