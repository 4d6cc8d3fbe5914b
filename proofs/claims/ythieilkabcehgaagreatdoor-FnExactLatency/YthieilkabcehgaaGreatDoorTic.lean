
/-
  The first slot of which something is so, and the slot that has a cycle: the program's own functions. Conditions: the slots lie in memory; the tables are sound.
-/
import Derived.Test.YthieilkabcehgaaGreatDoorBas
import Derived.Test.YthieilkabcehgaaGreatDoorTib
namespace Go.Proofs.YthieilkabcehgaaGreatDoor
open Go.ChangeShapes Go.WideShapes Go.ChangeAt Go.RowKit Go.Deep Go.Joins
set_option linter.unusedVariables false

set_option maxRecDepth 40000 in
set_option maxHeartbeats 4000000 in
theorem first_slot (t : Tb) (a : Ad) (r : Nat) (fid : Nat) (caps : Array Value) (w : World) (hs : GSeg 3 w a.sa a.sn (slX t.ss)) (hn : a.sn ≤ 1048576) (h1 : 1 ≤ a.sn) (hcs : a.sn ≤ a.sc) (hr : r ≤ a.sn) (hen : ∀ args (v : World), (callFunc fid args).run Tryz.prog v = .ok (.enter fid args) v)
    (hf : ∀ k, k < a.sn → ∀ Y, Below w.heap.size w Y → Calls Tryz.prog fid (#[slV (t.ss.getD k sl0)] ++ caps) Y fun e w' => e = .returned (.bool (decide (r ≤ k))) ∧ Below Y.heap.size Y w') :
    Calls Tryz.prog 106 #[tbV t a, .func (.func fid) #[] caps] w fun e w' => e = .returned (.int .i64 (r : Int)) ∧ Below w.heap.size w w' := by
  have HB0 : Hid (Below w.heap.size w (w.alloc (.cells (tbA t a) 39))) := (Below.refl _ _).alloc (Nat.le_refl _) _
  have HX0 : Hid (TBx (w.alloc (.cells (tbA t a) 39)) w.heap.size t a) := TBx.new w t a _ rfl
  have hbA : Below (w.alloc (.cells (tbA t a) 39)).heap.size (w.alloc (.cells (tbA t a) 39)) ((w.alloc (.cells (tbA t a) 39)).alloc (.cells #[.func (.func fid) #[] caps] 138)) := (Below.refl _ _).alloc (Nat.le_refl _) _
  have hbB : Below ((w.alloc (.cells (tbA t a) 39)).alloc (.cells #[.func (.func fid) #[] caps] 138)).heap.size ((w.alloc (.cells (tbA t a) 39)).alloc (.cells #[.func (.func fid) #[] caps] 138)) (((w.alloc (.cells (tbA t a) 39)).alloc (.cells #[.func (.func fid) #[] caps] 138)).alloc (.cells #[.slice a.sa a.sn a.sn] 37)) := (Below.refl _ _).alloc (Nat.le_refl _) _
  have HB1 : Hid (Below w.heap.size w ((w.alloc (.cells (tbA t a) 39)).alloc (.cells #[.func (.func fid) #[] caps] 138))) := HB0.out.trans (hbA.mono HB0.out.size)
  have HB2 : Hid (Below w.heap.size w (((w.alloc (.cells (tbA t a) 39)).alloc (.cells #[.func (.func fid) #[] caps] 138)).alloc (.cells #[.slice a.sa a.sn a.sn] 37))) := HB1.out.trans (hbB.mono HB1.out.size)
  have k18 : ((w.alloc (.cells (tbA t a) 39)).alloc (.cells #[.func (.func fid) #[] caps] 138)).cell? ⟨w.heap.size, 18, none⟩ = some (.slice a.sa a.sn a.sc) := kept_cell hbA (HX0.out.cell 18 rfl)
  have KF : Hid ((((w.alloc (.cells (tbA t a) 39)).alloc (.cells #[.func (.func fid) #[] caps] 138)).alloc (.cells #[.slice a.sa a.sn a.sn] 37)).cell? ⟨w.heap.size + 1, 0, none⟩ = some (.func (.func fid) #[] caps)) := kept_cell hbB (cell0 (CellsAt.new (w.alloc (.cells (tbA t a) 39)) [.func (.func fid) #[] caps] _ (w.heap.size + 1) (by simp)) 0 rfl)
  have KS : Hid ((((w.alloc (.cells (tbA t a) 39)).alloc (.cells #[.func (.func fid) #[] caps] 138)).alloc (.cells #[.slice a.sa a.sn a.sn] 37)).cell? ⟨w.heap.size + 1 + 1, 0, none⟩ = some (.slice a.sa a.sn a.sn)) := cell0 (CellsAt.new ((w.alloc (.cells (tbA t a) 39)).alloc (.cells #[.func (.func fid) #[] caps] 138)) [.slice a.sa a.sn a.sn] _ (w.heap.size + 1 + 1) (by simp)) 0 rfl
  have HC : Hid (Calls Tryz.prog 122 #[.int .i64 (a.sn : Int), .func (.func 123) #[] #[.pointer (some ⟨w.heap.size + 1, 0, none⟩), .pointer (some ⟨w.heap.size + 1 + 1, 0, none⟩)]] (((w.alloc (.cells (tbA t a) 39)).alloc (.cells #[.func (.func fid) #[] caps] 138)).alloc (.cells #[.slice a.sa a.sn a.sn] 37)) fun e w' => e = .returned (.int .i64 (r : Int)) ∧ Below (((w.alloc (.cells (tbA t a) 39)).alloc (.cells #[.func (.func fid) #[] caps] 138)).alloc (.cells #[.slice a.sa a.sn a.sn] 37)).heap.size (((w.alloc (.cells (tbA t a) 39)).alloc (.cells #[.func (.func fid) #[] caps] 138)).alloc (.cells #[.slice a.sa a.sn a.sn] 37)) w') :=
    search_any a.sn r 123 #[.pointer (some ⟨w.heap.size + 1, 0, none⟩), .pointer (some ⟨w.heap.size + 1 + 1, 0, none⟩)] (((w.alloc (.cells (tbA t a) 39)).alloc (.cells #[.func (.func fid) #[] caps] 138)).alloc (.cells #[.slice a.sa a.sn a.sn] 37)) hn hr e_fs1
      (fun k hk X hX => first_one t.ss a.sn k a.sa fid caps _ (w.heap.size + 1) (w.heap.size + 1 + 1) X ((hs.below HB2.out).below hX) hk hn hen (kept_cell hX KF.out) (kept_cell hX KS.out)
        (fun Y hY => hf k hk Y ((HB2.out.trans (hX.mono HB2.out.size)).trans (hY.mono (Nat.le_trans HB2.out.size hX.size)))))
  clear hf hs KF KS HX0 hbA hbB hr hen
  go_enter Tryz.func106, Tryz.ntmps106
  go_wp2_with fail
  refine Calls.mono HC.out ?_
  rintro e w1 ⟨rfl, hb⟩
  have HB : Hid (Below w.heap.size w w1) := HB2.out.trans (hb.mono HB2.out.size)
  clear hb HC HB0 HB1 HB2 k18
  go_wp2
  go_ret
  exact ⟨rfl, HB.out⟩
/-- Where what is so of one is so of all behind it, there is a first one. -/
theorem first_ex (P : Nat → Prop) (n : Nat) (hm : ∀ i j, i < j → j < n → P i → P j) : ∃ r, r ≤ n ∧ ∀ k, k < n → (P k ↔ r ≤ k) := by
  induction n with
  | zero => exact ⟨0, by omega, fun k hk => by omega⟩
  | succ n ih =>
    obtain ⟨r, hr, h⟩ := ih (fun i j hi hj => hm i j hi (by omega))
    by_cases g : P n
    · exact ⟨r, by omega, fun k hk => by
        by_cases e : k = n
        · subst e; exact ⟨fun _ => hr, fun _ => g⟩
        · exact h k (by omega)⟩
    · refine ⟨n + 1, by omega, fun k hk => ?_⟩
      by_cases e : k = n
      · subst e; exact ⟨fun q => absurd q g, fun q => by omega⟩
      · exact ⟨fun q => absurd (hm k n (by omega) (by omega) q) g, fun q => by omega⟩
theorem end_first {t : Tb} (h : Tm t) (p : Int) : ∃ r, r ≤ t.ss.length ∧ ∀ k, k < t.ss.length → (p < (t.ss.getD k sl0).2.1 + (t.ss.getD k sl0).2.2 ↔ r ≤ k) :=
  first_ex _ _ (fun i j hi hj g => by
    have h1 := h.od i j hi hj
    have h2 := h.ln j hj
    have := h.pad1
    have := h.grd1
    omega)
theorem slotV_first {t : Tb} (h : Tm t) {p : Int} {r : Nat} (hr : ∀ k, k < t.ss.length → (p < (t.ss.getD k sl0).2.1 + (t.ss.getD k sl0).2.2 ↔ r ≤ k)) (hc : t.ss.length ≤ r ∨ p < (t.ss.getD r sl0).2.1) : slotV t p = -1 := by
  refine slotV_none fun i hi g => ?_
  unfold HasP at g
  have h1 := (hr i hi).1 g.2
  rcases hc with hc | hc
  · omega
  · by_cases e : i = r
    · subst e; omega
    · have h2 := h.od r i (by omega) hi
      have h3 := h.ln r (by omega)
      have := h.pad1
      have := h.grd1
      omega
end Go.Proofs.YthieilkabcehgaaGreatDoor
