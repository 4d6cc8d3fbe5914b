/-
  A use of a cache: both sides alike, each in memory of its own. Conditions: the rows and their ways are at most 1048576 together.
-/
import Derived.Test.YtifgmgehnbkbjaaRows
import Derived.Test.YtifgmgehnbkbjaaIcu
import Derived.Test.YtifgmgehnbkbjaaSpu
import Derived.Test.YtifgmgehnbkbjaaCfl
namespace Go.Proofs.Ytifgmgehnbkbjaa
open Go.ChangeShapes Go.WideShapes Go.ChangeAt Go.RowKit Go.Deep
set_option linter.unusedVariables false

/-- A cache and two truth values are handed back, the cache in memory of the call's own. -/
def UsP (X : World) (s y l : Int) (n : Nat) (D : Nat → List Wy) (q1 q2 : Bool) (e : Ending) (w' : World) : Prop :=
  ∃ a cap, e = .returned (.tuple #[cch s y l (.slice a n cap), .bool q1, .bool q2]) ∧ Below X.heap.size X w' ∧ ORows w' X.heap.size w'.heap.size a n D
set_option maxHeartbeats 1000000 in
theorem spec_cu_no (s y l x : Int) (q : Bool) (a : Option Addr) (cap n : Nat) (D : Nat → List Wy) (w : World) (hs : RSeg w a n D) (hn : n ≤ 1048576) (ht : tot D n ≤ 1048576) (hq : ¬ (CacheOkP s y l n D ∧ inr x 0 65535 = true)) :
    Calls Try.prog 31 #[cch s y l (.slice a n cap), .int .i64 x, .bool q] w (UsP w 0 0 0 0 noD false false) := by
  have hal1 : Below w.heap.size w (w.alloc (.cells #[.int .i64 s, .int .i64 y, .int .i64 l, .slice a n cap] 43)) := (Below.refl _ _).alloc (Nat.le_refl _) _
  have hal := hal1.alloc hal1.size (.cells #[.int .i64 0, .int .i64 0, .int .i64 0, .slice none 0 0] 43)
  obtain ⟨qk, hqk⟩ := told (CacheOkP s y l n D)
  have HC : Hid _ := spec_cachek s y l a cap n D _ (RSeg.below hs hal) hn ht qk hqk
  obtain ⟨qa, HQA⟩ : ∃ qa, Hid (inr x 0 65535 = qa) := ⟨_, rfl⟩
  have HQ : Hid (qk = true → qa = false) := fun h => by
    cases qa
    · rfl
    · exact absurd ⟨hqk.1 h, HQA.out⟩ hq
  have HB0 : Hid _ := hal
  clear hs hal hal1 hq hqk
  go_enter Try.func31, Try.ntmps31
  go_wp2_with fail
  refine Calls.mono HC.out ?_
  rintro u w1 ⟨rfl, hb1⟩
  have hbw := HB0.out.trans (hb1.mono HB0.out.size)
  have B1 := (Bk.new (w.alloc (.cells #[.int .i64 s, .int .i64 y, .int .i64 l, .slice a n cap] 43)) #[.int .i64 0, .int .i64 0, .int .i64 0, .slice none 0 0] 43 (w.heap.size + 1) (by simp)).below hb1
  have C0 := B1.set 0 (.int .i64 0) (by simp) rfl
  have C1 := C0.set 1 (.int .i64 0) (by simp) rfl
  have C2 := C1.set 2 (.int .i64 0) (by simp) rfl
  have C3 := C2.set 3 (.slice none 0 0) (by simp) rfl
  have f := B1.free
  have m0 := B1.cell 0 _ rfl
  have m1 := C0.cell 1 _ rfl
  have m2 := C1.cell 2 _ rfl
  have m3 := C2.cell 3 _ rfl
  have n0 := C3.cell 0 _ rfl
  have n1 := C3.cell 1 _ rfl
  have n2 := C3.cell 2 _ rfl
  have n3 := C3.cell 3 _ rfl
  have HB : Hid _ := hbw
  clear hb1 hbw B1 C0 C1 C2 C3 HC
  cases qk
  · go_wp2
    exact bodyPost_ret (v := .tuple #[cch 0 0 0 (.slice none 0 0), .bool false, .bool false]) (by simp [results, Try.results31, go_sem, n0, n1, n2, n3]) rfl ⟨_, _, rfl, below_four HB.out (w.heap.size + 1) (by omega) _ _ _ _, rows_zero _ _ _ _ _⟩
  obtain rfl : qa = false := HQ.out (by first | rfl | trivial)
  go_wp2_with fail
  refine Calls.mono (in_any x 0 65535 _) ?_
  rintro u w2 ⟨rfl, rfl⟩
  rw [HQA.out]
  go_wp2
  exact bodyPost_ret (v := .tuple #[cch 0 0 0 (.slice none 0 0), .bool false, .bool false]) (by simp [results, Try.results31, go_sem, n0, n1, n2, n3]) rfl ⟨_, _, rfl, below_four HB.out (w.heap.size + 1) (by omega) _ _ _ _, rows_zero _ _ _ _ _⟩
set_option maxHeartbeats 1000000 in
theorem impl_cu_no (s y l x : Int) (q : Bool) (a : Option Addr) (cap n : Nat) (D : Nat → List Wy) (w : World) (hs : RSeg w a n D) (hn : n ≤ 1048576) (ht : tot D n ≤ 1048576) (hq : ¬ (CacheOkP s y l n D ∧ inr x 0 65535 = true)) :
    Calls Try.prog 32 #[cch s y l (.slice a n cap), .int .i64 x, .bool q] w (UsP w 0 0 0 0 noD false false) := by
  have hal1 : Below w.heap.size w (w.alloc (.cells #[.int .i64 s, .int .i64 y, .int .i64 l, .slice a n cap] 43)) := (Below.refl _ _).alloc (Nat.le_refl _) _
  have hal := hal1.alloc hal1.size (.cells #[.int .i64 0, .int .i64 0, .int .i64 0, .slice none 0 0] 43)
  obtain ⟨qk, hqk⟩ := told (CacheOkP s y l n D)
  have HC : Hid _ := impl_cachek s y l a cap n D _ (RSeg.below hs hal) hn ht qk hqk
  obtain ⟨qa, HQA⟩ : ∃ qa, Hid (inr x 0 65535 = qa) := ⟨_, rfl⟩
  have HQ : Hid (qk = true → qa = false) := fun h => by
    cases qa
    · rfl
    · exact absurd ⟨hqk.1 h, HQA.out⟩ hq
  have HB0 : Hid _ := hal
  clear hs hal hal1 hq hqk
  go_enter Try.func32, Try.ntmps32
  go_wp2_with fail
  refine Calls.mono HC.out ?_
  rintro u w1 ⟨rfl, hb1⟩
  have hbw := HB0.out.trans (hb1.mono HB0.out.size)
  have B1 := (Bk.new (w.alloc (.cells #[.int .i64 s, .int .i64 y, .int .i64 l, .slice a n cap] 43)) #[.int .i64 0, .int .i64 0, .int .i64 0, .slice none 0 0] 43 (w.heap.size + 1) (by simp)).below hb1
  have C0 := B1.set 0 (.int .i64 0) (by simp) rfl
  have C1 := C0.set 1 (.int .i64 0) (by simp) rfl
  have C2 := C1.set 2 (.int .i64 0) (by simp) rfl
  have C3 := C2.set 3 (.slice none 0 0) (by simp) rfl
  have f := B1.free
  have m0 := B1.cell 0 _ rfl
  have m1 := C0.cell 1 _ rfl
  have m2 := C1.cell 2 _ rfl
  have m3 := C2.cell 3 _ rfl
  have n0 := C3.cell 0 _ rfl
  have n1 := C3.cell 1 _ rfl
  have n2 := C3.cell 2 _ rfl
  have n3 := C3.cell 3 _ rfl
  have HB : Hid _ := hbw
  clear hb1 hbw B1 C0 C1 C2 C3 HC
  cases qk
  · go_wp2
    exact bodyPost_ret (v := .tuple #[cch 0 0 0 (.slice none 0 0), .bool false, .bool false]) (by simp [results, Try.results32, go_sem, n0, n1, n2, n3]) rfl ⟨_, _, rfl, below_four HB.out (w.heap.size + 1) (by omega) _ _ _ _, rows_zero _ _ _ _ _⟩
  obtain rfl : qa = false := HQ.out (by first | rfl | trivial)
  go_wp2_with fail
  refine Calls.mono (is_addr x _) ?_
  rintro u w2 ⟨rfl, rfl⟩
  rw [HQA.out]
  go_wp2
  exact bodyPost_ret (v := .tuple #[cch 0 0 0 (.slice none 0 0), .bool false, .bool false]) (by simp [results, Try.results32, go_sem, n0, n1, n2, n3]) rfl ⟨_, _, rfl, below_four HB.out (w.heap.size + 1) (by omega) _ _ _ _, rows_zero _ _ _ _ _⟩
set_option maxHeartbeats 2000000 in
theorem spec_cu_yes (n M L A : Nat) (q : Bool) (a : Option Addr) (cap : Nat) (D : Nat → List Wy) (w : World) (hs : RSeg w a n D) (hn : n ≤ 1048576) (htt : tot D n ≤ 1048576) (hq : CacheOkP (n : Int) (M : Int) (L : Int) n D) (hA : A ≤ 65535) (h : Nat) (t : Int) (hh : A / L % n = h) (ht : ((A / L / n : Nat) : Int) = t) (q1 q2 : Bool) (hq1 : usedHit (D h) t = q1) (hq2 : usedBack M (D h) t q = q2) :
    Calls Try.prog 31 #[cch (n : Int) (M : Int) (L : Int) (.slice a n cap), .int .i64 A, .bool q] w (UsP w n M L n (useD h M t q D) q1 q2) := by
  have hal1 : Below w.heap.size w (w.alloc (.cells #[.int .i64 n, .int .i64 M, .int .i64 L, .slice a n cap] 43)) := (Below.refl _ _).alloc (Nat.le_refl _) _
  have hal := hal1.alloc hal1.size (.cells #[.int .i64 0, .int .i64 0, .int .i64 0, .slice none 0 0] 43)
  have HC : Hid _ := spec_cachek (n : Int) M L a cap n D _ (RSeg.below hs hal) hn htt true (by simp [hq])
  have HX : Hid (inr (A : Int) 0 65535 = true) := inr_yes (by omega)
  have HB0 : Hid _ := hal
  have HS : Hid (RSeg w a n D) := hs
  have HK0 : Hid _ := (Bk.new w #[.int .i64 n, .int .i64 M, .int .i64 L, .slice a n cap] 43 w.heap.size rfl).alloc (.cells #[.int .i64 0, .int .i64 0, .int .i64 0, .slice none 0 0] 43)
  have HU : Hid (∀ X, RSeg X a n D → Calls Try.prog 63 #[cch (n : Int) (M : Int) (L : Int) (.slice a n cap), .int .i64 A, .bool q] X fun e w' => ∃ a' cap', e = .returned (.tuple #[cch (n : Int) (M : Int) (L : Int) (.slice a' n cap'), .bool q1, .bool q2]) ∧ Below X.heap.size X w' ∧ ORows w' X.heap.size w'.heap.size a' n (useD h M t q D)) := fun X hX => by rw [← hq1, ← hq2]; exact spec_use n M L A q a cap D X hX hq hA h t hh ht
  generalize useD h M t q D = E at HU ⊢
  clear hs hal hal1 hq hh ht hq1 hq2 htt hA
  go_enter Try.func31, Try.ntmps31
  go_wp2_with fail
  refine Calls.mono HC.out ?_
  rintro u w1 ⟨rfl, hb1⟩
  have hbw := HB0.out.trans (hb1.mono HB0.out.size)
  have HR1 : Hid _ := (Bk.new (w.alloc (.cells #[.int .i64 n, .int .i64 M, .int .i64 L, .slice a n cap] 43)) #[.int .i64 0, .int .i64 0, .int .i64 0, .slice none 0 0] 43 (w.heap.size + 1) (by simp)).below hb1
  have HK1 : Hid _ := HK0.out.below hb1
  have HB1 : Hid _ := hbw
  have k0 := HK1.out.cell 0 _ rfl
  have k1 := HK1.out.cell 1 _ rfl
  have k2 := HK1.out.cell 2 _ rfl
  have k3 := HK1.out.cell 3 _ rfl
  clear hb1 hbw HC HB0 HK0
  go_wp2_with fail
  refine Calls.mono (in_any (A : Int) 0 65535 _) ?_
  rintro u w2 ⟨rfl, rfl⟩
  rw [HX.out]
  go_wp2_with fail
  refine Calls.mono (HU.out _ (RSeg.below HS.out HB1.out)) ?_
  rintro u w3 ⟨a3, c3, rfl, hb3, ho3⟩
  have hlt1 := HR1.out.lt
  have B1 := HR1.out.below hb3
  have hbw3 := HB1.out.trans (hb3.mono HB1.out.size)
  have C0 := B1.set 0 (.int .i64 n) (by simp) rfl
  have C1 := C0.set 1 (.int .i64 M) (by simp) rfl
  have C2 := C1.set 2 (.int .i64 L) (by simp) rfl
  have C3 := C2.set 3 (.slice a3 n c3) (by simp) rfl
  have f := B1.free
  have m0 := B1.cell 0 _ rfl
  have m1 := C0.cell 1 _ rfl
  have m2 := C1.cell 2 _ rfl
  have m3 := C2.cell 3 _ rfl
  have n0 := C3.cell 0 _ rfl
  have n1 := C3.cell 1 _ rfl
  have n2 := C3.cell 2 _ rfl
  have n3 := C3.cell 3 _ rfl
  have hbt : Betw (w.heap.size + 1) (w.heap.size + 2) w3 ((((w3.setCell ⟨w.heap.size + 1, 0, none⟩ (.int .i64 n)).setCell ⟨w.heap.size + 1, 1, none⟩ (.int .i64 M)).setCell ⟨w.heap.size + 1, 2, none⟩ (.int .i64 L)).setCell ⟨w.heap.size + 1, 3, none⟩ (.slice a3 n c3)) := betw_four (Betw.refl _ _ _) (w.heap.size + 1) (by omega) (by omega) _ _ _ _
  have HZ : Hid _ := And.intro (below_four hbw3 (w.heap.size + 1) (by omega) (.int .i64 n) (.int .i64 M) (.int .i64 L) (.slice a3 n c3)) ((ho3.betw hbt (.inr (by omega))).wide (l' := w.heap.size) (by omega) hbt.size)
  clear hb3 ho3 B1 hbw3 C0 C1 C2 C3 hbt k0 k1 k2 k3
  go_wp2
  exact bodyPost_ret (v := .tuple #[cch n M L (.slice a3 n c3), .bool q1, .bool q2]) (by simp [results, Try.results31, go_sem, n0, n1, n2, n3]) rfl ⟨_, _, rfl, HZ.out.1, HZ.out.2⟩
theorem use_tot {n h M : Nat} {t : Int} {q : Bool} {D : Nat → List Wy} (hM : M ≤ 4) (hM1 : 1 ≤ M) (hr : ∀ i, i < n → (D i).length ≤ M) : ∀ k, k ≤ n → tot (useD h M t q D) k ≤ 4 * k := fun k => by
  induction k with
  | zero => intro _; simp [tot]
  | succ k ih =>
    intro hk
    have h1 := ih (by omega)
    have h2 : (useD h M t q D k).length ≤ M := by
      unfold useD
      split
      · exact (used_len hM1 (hr k (by omega))).1
      · exact hr k (by omega)
    simp only [tot]; omega
theorem cu_alike (s y l x : Int) (q : Bool) (n : Nat) (D : Nat → List Wy) (hn : n ≤ 1048576) (ht : tot D n ≤ 1048576) : ∃ (s1 y1 l1 : Int) (n1 : Nat) (E : Nat → List Wy) (q1 q2 : Bool), n1 ≤ 1048576 ∧ tot E n1 ≤ 1048576 ∧ (∀ X a cap, RSeg X a n D → Calls Try.prog 31 #[cch s y l (.slice a n cap), .int .i64 x, .bool q] X (UsP X s1 y1 l1 n1 E q1 q2)) ∧ (∀ X a cap, RSeg X a n D → Calls Try.prog 32 #[cch s y l (.slice a n cap), .int .i64 x, .bool q] X (UsP X s1 y1 l1 n1 E q1 q2)) := by
  by_cases h : CacheOkP s y l n D ∧ inr x 0 65535 = true
  · obtain ⟨h1, h2⟩ := h
    obtain rfl : (n : Int) = s := h1.2.1
    have hp := shapeOk_parts h1.1
    have hx := of_inr h2
    obtain ⟨A, rfl⟩ : ∃ A : Nat, x = (A : Int) := ⟨x.toNat, by omega⟩
    obtain ⟨L, rfl⟩ : ∃ L : Nat, l = (L : Int) := ⟨l.toNat, by omega⟩
    obtain ⟨M, rfl⟩ : ∃ M : Nat, y = (M : Int) := ⟨y.toNat, by omega⟩
    have hA : A ≤ 65535 := by omega
    refine ⟨n, M, L, n, useD (A / L % n) M ((A / L / n : Nat) : Int) q D, usedHit (D (A / L % n)) ((A / L / n : Nat) : Int), usedBack M (D (A / L % n)) ((A / L / n : Nat) : Int) q, hn, ?_, fun X a cap hX => spec_cu_yes n M L A q a cap D X hX hn ht h1 hA _ _ rfl rfl _ _ rfl rfl, fun X a cap hX => impl_use n M L A q a cap D X hX h1 hA _ _ rfl rfl⟩
    have := use_tot (n := n) (h := A / L % n) (M := M) (t := ((A / L / n : Nat) : Int)) (q := q) (D := D) (by omega) (by omega) (fun i hi => by have := (h1.2.2 i hi).1; omega) n (Nat.le_refl _)
    omega
  · exact ⟨0, 0, 0, 0, noD, false, false, by omega, by rw [tot_no]; omega, fun X a cap hX => spec_cu_no s y l x q a cap n D X hX hn ht h, fun X a cap hX => impl_cu_no s y l x q a cap n D X hX hn ht h⟩
end Go.Proofs.Ytifgmgehnbkbjaa
