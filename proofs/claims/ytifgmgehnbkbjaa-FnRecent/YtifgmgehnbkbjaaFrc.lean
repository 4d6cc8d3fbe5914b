/-
  CacheRun beside its model, and what its answers say of the uses before; laws.has. Conditions: at most 1048576 uses, a list of at most 1048576.
-/
import Derived.Test.YtifgmgehnbkbjaaRct
import Derived.Test.YtifgmgehnbkbjaaFwy
namespace Go.Proofs.Ytifgmgehnbkbjaa
open Go.ChangeShapes Go.WideShapes Go.ChangeAt Go.RowKit
set_option linter.unusedVariables false

theorem cr_recent (s y l : Int) (N : Nat) (us : List Wy) (hl : us.length = N) (hN : N ≤ 1048576) : ∃ xs : List Ac, xs.length ≤ 2000 ∧ (∀ X a cap, WSeg X a us → Calls Try.prog 17 #[shp s y l, .slice a N cap] X (APost X xs)) ∧ (∀ X a cap, WSeg X a us → Calls Try.prog 16 #[shp s y l, .slice a N cap] X (APost X xs)) ∧
    (xs.length ≠ 0 → ∃ n M L : Nat, s = (n : Int) ∧ y = (M : Int) ∧ l = (L : Int) ∧ (1 ≤ n ∧ n ≤ 16) ∧ (1 ≤ M ∧ M ≤ 4) ∧ (4 ≤ L ∧ L ≤ 32) ∧ xs.length = N ∧ (∀ j, j < N → ∃ A : Nat, (us.getD j wd).1 = (A : Int) ∧ A ≤ 65535) ∧ ∀ i, i < N → (xs.getD i ad).1 = decide (ttA n L us i ∈ (stk n L us i (hhA n L us i)).take M) ∧ (xs.getD i ad).2.1 = false) := by
  by_cases h : shapeOk s y l = true ∧ N ≤ 2000
  · obtain ⟨hsh, hn2⟩ := h
    have hp := shapeOk_parts hsh
    obtain ⟨n, rfl⟩ : ∃ n : Nat, s = (n : Int) := ⟨s.toNat, by omega⟩
    obtain ⟨M, rfl⟩ : ∃ M : Nat, y = (M : Int) := ⟨y.toNat, by omega⟩
    obtain ⟨L, rfl⟩ : ∃ L : Nat, l = (L : Int) := ⟨l.toNat, by omega⟩
    by_cases hA : ∀ i, i < N → inr (us.getD i wd).1 0 65535 = true
    · refine ⟨accC n M L us N, by rw [accC_len]; exact hn2, fun X a cap hX => spec_crun n M L a cap N us X hX hl ⟨hsh, hn2, hA⟩, fun X a cap hX => impl_crun n M L a cap N us X hX hl hsh hn2 _ (fun _ => rfl) (fun g => absurd ⟨hsh, hn2, hA⟩ g), fun _ => ⟨n, M, L, rfl, rfl, rfl, by omega, by omega, by omega, accC_len .., fun j hj => ?_, fun i hi => ?_⟩⟩
      · have := of_inr (hA j hj)
        exact ⟨(us.getD j wd).1.toNat, by omega, by omega⟩
      · rw [accC_get hi]
        exact ⟨acc_stk hsh (fun j hj => hA j (by omega)), rfl⟩
    · exact ⟨[], by simp, fun X a cap hX => spec_cr_bad n M L a cap N us X hX hl hsh hn2 hA, fun X a cap hX => impl_crun n M L a cap N us X hX hl hsh hn2 _ (fun g => absurd g.2.2 hA) (fun _ => rfl), fun g => absurd rfl g⟩
  · exact ⟨[], by simp, fun X a cap _ => spec_cr_no s y l a cap N X h hN, fun X a cap _ => impl_cr_no s y l a cap N X h hN, fun g => absurd rfl g⟩
theorem law_has (a : Option Addr) (cap n : Nat) (zs : List Int) (x : Int) (w : World) (hs : Seg .i64 w a zs) (hnz : zs.length = n) (hn : n ≤ 1048576) :
    Calls Try.prog 18 #[.slice a n cap, .int .i64 x] w fun e w' => e = .returned (.bool (zs.contains x)) ∧ w' = w := by
  have Hn : Hid _ := hnz
  obtain ⟨q, HQ⟩ : ∃ q, Hid (zs.contains x = q) := ⟨_, rfl⟩
  rw [HQ.out]
  clear hnz
  go_enter Try.func18, Try.ntmps18
  go_wp2
  go_loopw [5] (fun i wr => ∃ k : Nat, k ≤ n ∧ i = .int .i64 k ∧ wr = w ∧ Hid (∀ j, j < k → zs.getD j 0 ≠ x)) (fun i _ => n - (intOf i).toNat)
  case atStart => exact ⟨0, by omega, rfl, rfl, fun j hj => absurd hj (by omega)⟩
  case round =>
    obtain ⟨k, hk, rfl, rfl, HJ⟩ := hrel
    by_cases hlt : k < n
    · have hl : k < zs.length := by rw [Hn.out]; exact hlt
      have hlt' : (k : Int) < (n : Int) := by omega
      obtain ⟨b1, o1, rfl, hbl1, hc1⟩ := hs.at k hl
      have HM : Hid (x = zs.getD k 0 → q = true) := fun e => HQ.out.symm.trans (mem_of_getD hl e)
      have HS : Hid (zs.getD k 0 ≠ x → ∀ j, j < k + 1 → zs.getD j 0 ≠ x) := fun g j hj => by
        by_cases e : j = k
        · subst e; exact g
        · exact HJ.out j (by omega)
      generalize zs.getD k 0 = z at hc1 HM HS
      clear hs hl hbl1
      by_cases hx : z = x
      · have hx' : (z == x) = true := by simpa using hx
        have HT : Hid (q = true) := HM.out hx.symm
        clear hx HM HS HJ
        go_wp2
        go_ret
        exact ⟨ret_bool HT.out.symm, rfl⟩
      · have hx' : (z == x) = false := by simpa using hx
        have HT := HS.out hx
        replace HT : Hid (∀ j, j < k + 1 → zs.getD j 0 ≠ x) := HT
        clear hx HM HS HJ
        go_wp2
        go_roundw
        case rel => exact ⟨k + 1, by omega, by go_num, trivial, HT⟩
        case measure => simp [intOf]; omega
    · go_wp2
      go_ret
      exact ⟨ret_bool (by rw [← HQ.out, not_mem_of (fun j hj => HJ.out j (by have := Hn.out; omega))]), rfl⟩
end Go.Proofs.Ytifgmgehnbkbjaa
