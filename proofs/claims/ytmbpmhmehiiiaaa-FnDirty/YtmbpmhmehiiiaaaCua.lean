
/-
  A use of a cache: both sides alike, each in memory of its own. Conditions: the rows and their ways are at most 1048576 together.
-/
import Derived.Test.YtmbpmhmehiiiaaaRows
import Derived.Test.YtmbpmhmehiiiaaaIcu
import Derived.Test.YtmbpmhmehiiiaaaSpu
import Derived.Test.YtmbpmhmehiiiaaaCfl
namespace Go.Proofs.Ytmbpmhmehiiiaaa
open Go.ChangeShapes Go.WideShapes Go.ChangeAt Go.RowKit Go.Deep
set_option linter.unusedVariables false

/-- A cache and two truth values are handed back, the cache in memory of the call's own. -/
def UsP (X : World) (s y l : Int) (n : Nat) (D : Nat → List Wy) (q1 q2 : Bool) (e : Ending) (w' : World) : Prop :=
  ∃ a cap, e = .returned (.tuple #[cch s y l (.slice a n cap), .bool q1, .bool q2]) ∧ Below X.heap.size X w' ∧ ORows w' X.heap.size w'.heap.size a n D
set_option maxHeartbeats 1000000 in
theorem impl_cu_no (s y l x : Int) (q : Bool) (a : Option Addr) (cap n : Nat) (D : Nat → List Wy) (w : World) (hs : RSeg w a n D) (hn : n ≤ 1048576) (ht : tot D n ≤ 1048576) (hq : ¬ (CacheOkP s y l n D ∧ inr x 0 65535 = true)) :
    Calls Try.prog 9 #[cch s y l (.slice a n cap), .int .i64 x, .bool q] w (UsP w 0 0 0 0 noD false false) := by
  have hal1 : Below w.heap.size w (w.alloc (.cells #[.int .i64 s, .int .i64 y, .int .i64 l, .slice a n cap] 34)) := (Below.refl _ _).alloc (Nat.le_refl _) _
  have hal := hal1.alloc hal1.size (.cells #[.int .i64 0, .int .i64 0, .int .i64 0, .slice none 0 0] 34)
  obtain ⟨qk, hqk⟩ := told (CacheOkP s y l n D)
  have HC : Hid _ := impl_cachek s y l a cap n D _ (RSeg.below hs hal) hn ht qk hqk
  obtain ⟨qa, HQA⟩ : ∃ qa, Hid (inr x 0 65535 = qa) := ⟨_, rfl⟩
  have HQ : Hid (qk = true → qa = false) := fun h => by
    cases qa
    · rfl
    · exact absurd ⟨hqk.1 h, HQA.out⟩ hq
  have HB0 : Hid _ := hal
  clear hs hal hal1 hq hqk
  go_enter Try.func9, Try.ntmps9
  go_wp2_with fail
  refine Calls.mono HC.out ?_
  rintro u w1 ⟨rfl, hb1⟩
  have hbw := HB0.out.trans (hb1.mono HB0.out.size)
  have B1 := (Bk.new (w.alloc (.cells #[.int .i64 s, .int .i64 y, .int .i64 l, .slice a n cap] 34)) #[.int .i64 0, .int .i64 0, .int .i64 0, .slice none 0 0] 34 (w.heap.size + 1) (by simp)).below hb1
  have C0 := B1.set 0 (.int .i64 0) (by simp) rfl
  have C1 := C0.set 1 (.int .i64 0) (by simp) rfl
  have C2 := C1.set 2 (.int .i64 0) (by simp) rfl
  have C3 := C2.set 3 (.slice none 0 0) (by simp) rfl
  have f := B1.free
  have m0 := B1.cell 0 _ rfl
  have m1 := C0.cell 1 _ rfl
  have m2 := C1.cell 2 _ rfl
  have m3 := C2.cell 3 _ rfl
  have n0 := C3.cell 0 _ rfl
  have n1 := C3.cell 1 _ rfl
  have n2 := C3.cell 2 _ rfl
  have n3 := C3.cell 3 _ rfl
  have HB : Hid _ := hbw
  clear hb1 hbw B1 C0 C1 C2 C3 HC
  cases qk
  · go_wp2
    exact bodyPost_ret (v := .tuple #[cch 0 0 0 (.slice none 0 0), .bool false, .bool false]) (by simp [results, Try.results9, go_sem, n0, n1, n2, n3]) rfl ⟨_, _, rfl, below_four HB.out (w.heap.size + 1) (by omega) _ _ _ _, rows_zero _ _ _ _ _⟩
  obtain rfl : qa = false := HQ.out (by first | rfl | trivial)
  go_wp2_with fail
  refine Calls.mono (is_addr x _) ?_
  rintro u w2 ⟨rfl, rfl⟩
  rw [HQA.out]
  go_wp2
  exact bodyPost_ret (v := .tuple #[cch 0 0 0 (.slice none 0 0), .bool false, .bool false]) (by simp [results, Try.results9, go_sem, n0, n1, n2, n3]) rfl ⟨_, _, rfl, below_four HB.out (w.heap.size + 1) (by omega) _ _ _ _, rows_zero _ _ _ _ _⟩
theorem use_tot {n h M : Nat} {t : Int} {q : Bool} {D : Nat → List Wy} (hM : M ≤ 4) (hM1 : 1 ≤ M) (hr : ∀ i, i < n → (D i).length ≤ M) : ∀ k, k ≤ n → tot (useD h M t q D) k ≤ 4 * k := fun k => by
  induction k with
  | zero => intro _; simp [tot]
  | succ k ih =>
    intro hk
    have h1 := ih (by omega)
    have h2 : (useD h M t q D k).length ≤ M := by
      unfold useD
      split
      · exact (used_len hM1 (hr k (by omega))).1
      · exact hr k (by omega)
    simp only [tot]; omega
end Go.Proofs.Ytmbpmhmehiiiaaa
