
/-
  The empty table of pages: the specification's and the program's own functions answer alike. No conditions.
-/
import Derived.Test.YtdjfijkgmeapdaaProg
import Derived.Test.YtdjfijkgmeapdaaTki
namespace Go.Proofs.Ytdjfijkgmeapdaa
open Go.ChangeShapes Go.WideShapes Go.ChangeAt Go.RowKit Go.Deep
set_option linter.unusedVariables false

def emS (s : Int) : Int := if inr s 1 8 = true then s else 0
theorem spec_tem (s : Int) (w : World) : Calls Try.prog 24 #[.int .i64 s] w fun e w' => e = .returned (tlb (emS s) (.slice none 0 0)) ∧ Below w.heap.size w w' := by
  have hal : ∀ cs, Below w.heap.size w (w.alloc (.cells cs 30)) := fun cs => (Below.refl _ _).alloc (Nat.le_refl _) _
  have HB : Hid _ := hal
  clear hal
  obtain ⟨sz, HSZ⟩ : ∃ sz, Hid (inr s 1 8 = sz) := ⟨_, rfl⟩
  have HE : Hid (emS s = if sz = true then s else 0) := by rw [← HSZ.out]; exact rfl
  rw [HE.out]
  go_enter Try.func24, Try.ntmps24
  go_wp2_with fail
  refine (in_any s 1 8 _).mono ?_
  rintro u w1 ⟨rfl, rfl⟩
  rw [HSZ.out]
  cases sz
  · go_wp2
    refine bodyPost_ret (v := tlb 0 (.slice none 0 0)) (by simp [results, Try.results24, go_sem]) rfl ⟨rfl, HB.out _⟩
  · go_wp2
    refine bodyPost_ret (v := tlb s (.slice none 0 0)) (by simp [results, Try.results24, go_sem]) rfl ⟨rfl, HB.out _⟩
theorem impl_tem (s : Int) (w : World) : Calls Try.prog 8 #[.int .i64 s] w fun e w' => (∃ a, e = .returned (tlb (emS s) (.slice a 0 0))) ∧ Below w.heap.size w w' := by
  have hal : ∀ cs, Below w.heap.size w (w.alloc (.cells cs 30)) := fun cs => (Below.refl _ _).alloc (Nat.le_refl _) _
  have HB : Hid _ := hal
  clear hal
  obtain ⟨sz, HSZ⟩ : ∃ sz, Hid (inr s 1 8 = sz) := ⟨_, rfl⟩
  have HE : Hid (emS s = if sz = true then s else 0) := by rw [← HSZ.out]; exact rfl
  rw [HE.out]
  go_enter Try.func8, Try.ntmps8
  go_wp2_with fail
  refine (size_any s _).mono ?_
  rintro u w1 ⟨rfl, rfl⟩
  rw [HSZ.out]
  cases sz
  · go_wp2
    refine bodyPost_ret (v := tlb 0 (.slice none 0 0)) (by simp [results, Try.results8, go_sem]) rfl ⟨⟨_, rfl⟩, HB.out _⟩
  · go_wp2
    refine bodyPost_ret (v := tlb s (.slice (some ⟨w.heap.size + 1, 0, none⟩) 0 0)) (by simp [results, Try.results8, go_sem]) rfl ⟨⟨_, rfl⟩, (HB.out _).alloc (HB.out _).size _⟩
end Go.Proofs.Ytdjfijkgmeapdaa
