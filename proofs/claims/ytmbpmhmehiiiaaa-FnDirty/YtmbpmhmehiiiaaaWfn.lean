
/-
  The test for a tag, and what the library finds by it. No conditions but those that each fact names.
-/
import Derived.Test.YtmbpmhmehiiiaaaRows
import Derived.Test.YtmbpmhmehiiiaaaWeq
namespace Go.Proofs.Ytmbpmhmehiiiaaa
open Go.ChangeShapes Go.WideShapes Go.ChangeAt Go.RowKit Go.Deep
set_option linter.unusedVariables false

abbrev tagF (B : Nat) : Value := .func (.func 44) #[] #[.pointer (some ⟨B, 0, none⟩)]
theorem has_tag (t : Int) (w : World) : Calls Try.prog 34 #[.int .i64 t] w fun e w' => e = .returned (tagF w.heap.size) ∧ w' = w.alloc (.cells #[.int .i64 t] 3) := by
  have hmf : ∀ (fn : Fn) (first cap : Array Value) (w : World), (Instr.makeFunc fn first cap).run Try.prog w = .ok (.func fn first cap) w := fun _ _ _ _ => rfl
  go_enter Try.func34, Try.ntmps34
  go_wp2
  go_ret
  exact ⟨rfl, rfl⟩
theorem has_tag' (t : Int) (w : World) : Calls Try.prog 34 #[.int .i64 t] w fun e w' => ∃ B, e = .returned (tagF B) ∧ Below w.heap.size w w' ∧ w'.cell? ⟨B, 0, none⟩ = some (.int .i64 t) :=
  (has_tag t w).mono fun e w' h => ⟨_, h.1, by rw [h.2]; exact (Below.refl _ _).alloc (Nat.le_refl _) _, by rw [h.2]; exact new_cell w _ 3 0 _ rfl⟩
theorem tag_fn (z t : Int) (d : Bool) (B : Nat) (w : World) (hc : w.cell? ⟨B, 0, none⟩ = some (.int .i64 t)) :
    Calls Try.prog 44 #[.agg #[.int .i64 z, .bool d], .pointer (some ⟨B, 0, none⟩)] w fun e w' => e = .returned (.bool (z == t)) ∧ Below w.heap.size w w' := by
  have hc2 := cell_alloc_l (.cells #[.int .i64 z, .bool d] 61) hc
  clear hc
  go_enter Try.func44, Try.ntmps44
  go_wp2
  go_ret
  exact ⟨rfl, (Below.refl _ _).alloc (Nat.le_refl _) _⟩
/-- Where the first way with the tag stands; none. -/
def findT (t : Int) : List Wy → Option Nat
  | [] => none
  | x :: xs => if x.1 = t then some 0 else (findT t xs).map (· + 1)
def hasT (ws : List Wy) (t : Int) : Bool := ws.any (fun x => x.1 == t)
theorem hasT_yes {ws : List Wy} {k : Nat} {t : Int} (hk : k < ws.length) (h : (ws.getD k wd).1 = t) : hasT ws t = true := by
  unfold hasT
  rw [List.any_eq_true]
  exact ⟨ws.getD k wd, by simp [List.getD, hk], by rw [h]; simp⟩
theorem hasT_no {ws : List Wy} {t : Int} (h : ∀ j, j < ws.length → (ws.getD j wd).1 ≠ t) : hasT ws t = false := by
  unfold hasT
  rw [Bool.eq_false_iff]
  intro c
  rw [List.any_eq_true] at c
  obtain ⟨x, hx, e⟩ := c
  obtain ⟨j, hj, rfl⟩ := List.mem_iff_getElem.1 hx
  exact h j hj (by simpa [List.getD, hj] using e)
set_option maxHeartbeats 1000000 in
theorem index_fn (a : Option Addr) (cap n B : Nat) (ws : List Wy) (t : Int) (w : World) (hs : WSeg w a ws) (hl : ws.length = n) (hn : n ≤ 1048576) (hc : w.cell? ⟨B, 0, none⟩ = some (.int .i64 t)) :
    Calls Try.prog 43 #[.slice a n cap, tagF B] w fun e w' => (∃ r : Int, e = .returned (.int .i64 r) ∧ decide (0 ≤ r) = hasT ws t) ∧ Below w.heap.size w w' := by
  have HS : Hid _ := And.intro hs hl
  have HC : Hid _ := hc
  obtain ⟨q, HQ⟩ : ∃ q, Hid (hasT ws t = q) := ⟨_, rfl⟩
  rw [HQ.out]
  clear hs hc hl
  go_enter Try.func43, Try.ntmps43
  go_wp2
  go_loopw [8] (fun i wr => ∃ k : Nat, k ≤ n ∧ i = .int .i64 k ∧ Hid (Below w.heap.size w wr) ∧ Hid (∀ j, j < k → (ws.getD j wd).1 ≠ t)) (fun i _ => n - (intOf i).toNat)
  case atStart => exact ⟨0, by omega, rfl, Below.refl _ _, fun j hj => absurd hj (by omega)⟩
  case round =>
    obtain ⟨k, hk, rfl, HB, HJ⟩ := hrel
    by_cases hlt : k < n
    · have hlt' : (k : Int) < (n : Int) := by omega
      have hl : k < ws.length := by rw [HS.out.2]; exact hlt
      obtain ⟨b1, o1, rfl, hbl1, c1, d1⟩ := WSeg.at (w := w) HS.out.1 k hl
      have hb := HB.out
      replace c1 := (hb.cell (p := ⟨b1, o1 + k * 2, none⟩) hbl1).trans c1
      replace d1 := (hb.cell (p := ⟨b1, o1 + k * 2 + 1, none⟩) hbl1).trans d1
      have HM : Hid ((ws.getD k wd).1 = t → q = true) := fun e => HQ.out.symm.trans (hasT_yes hl e)
      have HN : Hid ((ws.getD k wd).1 ≠ t → ∀ j, j < k + 1 → (ws.getD j wd).1 ≠ t) := fun g j hj => by
        by_cases e : j = k
        · subst e; exact g
        · exact HJ.out j (by omega)
      generalize ws.getD k wd = p at c1 d1 HM HN
      obtain ⟨z, d⟩ := p
      simp only at c1 d1 HM HN
      have HT : Hid _ := tag_fn z t d B wr (kept_cell hb HC.out)
      clear hl hbl1 HB
      go_wp2_with fail
      refine Calls.mono HT.out ?_
      rintro u w2 ⟨rfl, hbb⟩
      have HB2 : Hid _ := hb.trans (hbb.mono hb.size)
      clear hb hbb HT
      by_cases hz : z = t
      · have hz' : (z == t) = true := by simpa using hz
        have HT : Hid (q = true) := HM.out hz
        clear hz HM HN
        rw [hz']
        go_wp2
        go_ret
        refine ⟨⟨_, rfl, ?_⟩, HB2.out⟩
        rw [HT.out]
        simp
      · have hz' : (z == t) = false := by simpa using hz
        have HT : Hid _ := HN.out hz
        clear hz HM HN
        rw [hz']
        go_wp2
        go_roundw
        case rel => exact ⟨k + 1, by omega, by go_num, HB2, HT⟩
        case measure => simp [intOf]; omega
    · go_wp2
      go_ret
      refine ⟨⟨_, rfl, ?_⟩, HB.out⟩
      rw [← HQ.out, hasT_no (fun j hj => HJ.out j (by have := HS.out.2; omega))]
      rfl
theorem has_fn (a : Option Addr) (cap n B : Nat) (ws : List Wy) (t : Int) (w : World) (hs : WSeg w a ws) (hl : ws.length = n) (hn : n ≤ 1048576) (hc : w.cell? ⟨B, 0, none⟩ = some (.int .i64 t)) :
    Calls Try.prog 33 #[.slice a n cap, tagF B] w fun e w' => e = .returned (.bool (hasT ws t)) ∧ Below w.heap.size w w' := by
  have HI : Hid _ := index_fn a cap n B ws t w hs hl hn hc
  obtain ⟨q, HQ⟩ : ∃ q, Hid (hasT ws t = q) := ⟨_, rfl⟩
  rw [HQ.out] at HI ⊢
  clear hs hl hc
  go_enter Try.func33, Try.ntmps33
  go_wp2_with fail
  refine Calls.mono HI.out ?_
  rintro e w1 ⟨⟨r, rfl, hr⟩, hb⟩
  have HR : Hid (decide (0 ≤ r) = q) := hr
  clear hr
  go_wp2
  go_ret
  exact ⟨ret_bool HR.out, hb⟩
end Go.Proofs.Ytmbpmhmehiiiaaa
