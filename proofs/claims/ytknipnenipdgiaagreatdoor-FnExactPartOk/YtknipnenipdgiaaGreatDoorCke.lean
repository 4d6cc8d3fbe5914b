
/-
  A cache, right or not: both sides. Conditions: its rows lie in memory and hold at most 1048576 ways together.
-/
import Derived.Test.YtknipnenipdgiaaGreatDoorBas
import Derived.Test.YtknipnenipdgiaaGreatDoorProg
import Derived.Test.YtknipnenipdgiaaGreatDoorCaw
import Derived.Test.YtknipnenipdgiaaGreatDoorShp
import Derived.WalkKit
import Derived.Deep.QuietTactic
import Derived.Deep.RegionWith
import Derived.BigQuiet
import Derived.Handy
import Derived.Deep.RegionHeld3
import Derived.Deep.RegionHeldLaw
import Derived.Lib.SmallJoins
import Derived.Below
import Derived.ProofKit
import Derived.OpenShut

namespace Go.Proofs.YtknipnenipdgiaaGreatDoor
open Go.ChangeShapes Go.WideShapes Go.ChangeAt Go.RowKit Go.Deep Go.Joins
set_option linter.unusedVariables false
namespace Cw
abbrev tagF (B : Nat) : Value := .func (.func 274) #[] #[.pointer (some ⟨B, 0, none⟩)]
theorem has_tag (t : Int) (w : World) : Calls Tryz.prog 250 #[.int .i64 t] w fun e w' => e = .returned (tagF w.heap.size) ∧ w' = w.alloc (.cells #[.int .i64 t] 3) := by
  have hmf : ∀ (fn : Fn) (first cap : Array Value) (w : World), (Instr.makeFunc fn first cap).run Tryz.prog w = .ok (.func fn first cap) w := fun _ _ _ _ => rfl
  go_enter Tryz.func250, Tryz.ntmps250
  go_wp2
  go_ret
  exact ⟨rfl, rfl⟩
theorem has_tag' (t : Int) (w : World) : Calls Tryz.prog 250 #[.int .i64 t] w fun e w' => ∃ B, e = .returned (tagF B) ∧ Below w.heap.size w w' ∧ w'.cell? ⟨B, 0, none⟩ = some (.int .i64 t) :=
  (has_tag t w).mono fun e w' h => ⟨_, h.1, by rw [h.2]; exact (Below.refl _ _).alloc (Nat.le_refl _) _, by rw [h.2]; exact new_cell w _ 3 0 _ rfl⟩
theorem tag_fn (z t : Int) (d : Bool) (B : Nat) (w : World) (hc : w.cell? ⟨B, 0, none⟩ = some (.int .i64 t)) :
    Calls Tryz.prog 274 #[.agg #[.int .i64 z, .bool d], .pointer (some ⟨B, 0, none⟩)] w fun e w' => e = .returned (.bool (z == t)) ∧ Below w.heap.size w w' := by
  have hc2 := cell_alloc_l (.cells #[.int .i64 z, .bool d] 196) hc
  clear hc
  go_enter Tryz.func274, Tryz.ntmps274
  go_wp2
  go_ret
  exact ⟨rfl, (Below.refl _ _).alloc (Nat.le_refl _) _⟩
/-- Where the first way with the tag stands; none. -/
def findT (t : Int) : List Wy → Option Nat
  | [] => none
  | x :: xs => if x.1 = t then some 0 else (findT t xs).map (· + 1)
def hasT (ws : List Wy) (t : Int) : Bool := ws.any (fun x => x.1 == t)
theorem hasT_yes {ws : List Wy} {k : Nat} {t : Int} (hk : k < ws.length) (h : (ws.getD k wd).1 = t) : hasT ws t = true := by
  unfold hasT
  rw [List.any_eq_true]
  exact ⟨ws.getD k wd, by simp [List.getD, hk], by rw [h]; simp⟩
theorem hasT_no {ws : List Wy} {t : Int} (h : ∀ j, j < ws.length → (ws.getD j wd).1 ≠ t) : hasT ws t = false := by
  unfold hasT
  rw [Bool.eq_false_iff]
  intro c
  rw [List.any_eq_true] at c
  obtain ⟨x, hx, e⟩ := c
  obtain ⟨j, hj, rfl⟩ := List.mem_iff_getElem.1 hx
  exact h j hj (by simpa [List.getD, hj] using e)
set_option maxHeartbeats 1000000 in
theorem index_fn (a : Option Addr) (cap n B : Nat) (ws : List Wy) (t : Int) (w : World) (hs : WSeg w a ws) (hl : ws.length = n) (hn : n ≤ 1048576) (hc : w.cell? ⟨B, 0, none⟩ = some (.int .i64 t)) :
    Calls Tryz.prog 273 #[.slice a n cap, tagF B] w fun e w' => (∃ r : Int, e = .returned (.int .i64 r) ∧ decide (0 ≤ r) = hasT ws t) ∧ Below w.heap.size w w' := by
  have HS : Hid _ := And.intro hs hl
  have HC : Hid _ := hc
  obtain ⟨q, HQ⟩ : ∃ q, Hid (hasT ws t = q) := ⟨_, rfl⟩
  rw [HQ.out]
  clear hs hc hl
  go_enter Tryz.func273, Tryz.ntmps273
  go_wp2
  go_loopw [8] (fun i wr => ∃ k : Nat, k ≤ n ∧ i = .int .i64 k ∧ Hid (Below w.heap.size w wr) ∧ Hid (∀ j, j < k → (ws.getD j wd).1 ≠ t)) (fun i _ => n - (intOf i).toNat)
  case atStart => exact ⟨0, by omega, rfl, Below.refl _ _, fun j hj => absurd hj (by omega)⟩
  case round =>
    obtain ⟨k, hk, rfl, HB, HJ⟩ := hrel
    by_cases hlt : k < n
    · have hlt' : (k : Int) < (n : Int) := by omega
      have hl : k < ws.length := by rw [HS.out.2]; exact hlt
      obtain ⟨b1, o1, rfl, hbl1, c1, d1⟩ := WSeg.at (w := w) HS.out.1 k hl
      have hb := HB.out
      replace c1 := (hb.cell (p := ⟨b1, o1 + k * 2, none⟩) hbl1).trans c1
      replace d1 := (hb.cell (p := ⟨b1, o1 + k * 2 + 1, none⟩) hbl1).trans d1
      have HM : Hid ((ws.getD k wd).1 = t → q = true) := fun e => HQ.out.symm.trans (hasT_yes hl e)
      have HN : Hid ((ws.getD k wd).1 ≠ t → ∀ j, j < k + 1 → (ws.getD j wd).1 ≠ t) := fun g j hj => by
        by_cases e : j = k
        · subst e; exact g
        · exact HJ.out j (by omega)
      generalize ws.getD k wd = p at c1 d1 HM HN
      obtain ⟨z, d⟩ := p
      simp only at c1 d1 HM HN
      have HT : Hid _ := tag_fn z t d B wr (kept_cell hb HC.out)
      clear hl hbl1 HB
      go_wp2_with fail
      refine Calls.mono HT.out ?_
      rintro u w2 ⟨rfl, hbb⟩
      have HB2 : Hid _ := hb.trans (hbb.mono hb.size)
      clear hb hbb HT
      by_cases hz : z = t
      · have hz' : (z == t) = true := by simpa using hz
        have HT : Hid (q = true) := HM.out hz
        clear hz HM HN
        rw [hz']
        go_wp2
        go_ret
        refine ⟨⟨_, rfl, ?_⟩, HB2.out⟩
        rw [HT.out]
        simp
      · have hz' : (z == t) = false := by simpa using hz
        have HT : Hid _ := HN.out hz
        clear hz HM HN
        rw [hz']
        go_wp2
        go_roundw
        case rel => exact ⟨k + 1, by omega, by go_num, HB2, HT⟩
        case measure => simp [intOf]; omega
    · go_wp2
      go_ret
      refine ⟨⟨_, rfl, ?_⟩, HB.out⟩
      rw [← HQ.out, hasT_no (fun j hj => HJ.out j (by have := HS.out.2; omega))]
      rfl
theorem has_fn (a : Option Addr) (cap n B : Nat) (ws : List Wy) (t : Int) (w : World) (hs : WSeg w a ws) (hl : ws.length = n) (hn : n ≤ 1048576) (hc : w.cell? ⟨B, 0, none⟩ = some (.int .i64 t)) :
    Calls Tryz.prog 249 #[.slice a n cap, tagF B] w fun e w' => e = .returned (.bool (hasT ws t)) ∧ Below w.heap.size w w' := by
  have HI : Hid _ := index_fn a cap n B ws t w hs hl hn hc
  obtain ⟨q, HQ⟩ : ∃ q, Hid (hasT ws t = q) := ⟨_, rfl⟩
  rw [HQ.out] at HI ⊢
  clear hs hl hc
  go_enter Tryz.func249, Tryz.ntmps249
  go_wp2_with fail
  refine Calls.mono HI.out ?_
  rintro e w1 ⟨⟨r, rfl, hr⟩, hb⟩
  have HR : Hid (decide (0 ≤ r) = q) := hr
  clear hr
  go_wp2
  go_ret
  exact ⟨ret_bool HR.out, hb⟩
abbrev tg (ws : List Wy) (i : Nat) : Int := (ws.getD i wd).1
def rowGood (ws : List Wy) (i : Nat) : Prop := (0 ≤ tg ws i ∧ tg ws i ≤ 65535) ∧ ∀ k, k < i → tg ws k ≠ tg ws i
def RowOk (y : Int) (ws : List Wy) : Prop := (ws.length : Int) ≤ y ∧ ∀ i, i < ws.length → rowGood ws i
def CacheOkP (s y l : Int) (n : Nat) (D : Nat → List Wy) : Prop := shapeOk s y l = true ∧ (n : Int) = s ∧ ∀ i, i < n → RowOk y (D i)
theorem told_no {P : Prop} {q : Bool} (hq : q = true ↔ P) (h : ¬ P) : false = q := by
  cases q
  · rfl
  · exact absurd (hq.1 rfl) h
theorem told_yes {P : Prop} {q : Bool} (hq : q = true ↔ P) (h : P) : true = q := (hq.2 h).symm
set_option maxHeartbeats 2000000 in
theorem spec_cachek (s y l : Int) (a : Option Addr) (cap n : Nat) (D : Nat → List Wy) (w : World) (hs : RSeg w a n D) (hn : n ≤ 1048576) (ht : tot D n ≤ 1048576) (q : Bool) (hq : q = true ↔ CacheOkP s y l n D) :
    Calls Tryz.prog 44 #[cch s y l (.slice a n cap)] w fun e w' => e = .returned (.bool q) ∧ Below w.heap.size w w' := by
  have HS : Hid _ := And.intro hs ht
  have HQ : Hid _ := hq
  clear hs ht hq
  by_cases hsh : shapeOk s y l = true
  rotate_left
  · have hsh' : shapeOk s y l = false := by simpa using hsh
    have HF : Hid (false = q) := told_no HQ.out (fun h => hsh h.1)
    clear hsh
    go_enter Tryz.func44, Tryz.ntmps44
    go_wp2_with fail
    refine (spec_shok s y l _).mono ?_
    rintro u w1 ⟨rfl, hb1⟩
    rw [hsh']
    have hb := ((Below.refl _ w).alloc (Nat.le_refl _) (.cells #[.int .i64 s, .int .i64 y, .int .i64 l, .slice a n cap] 67)).trans (hb1.mono (by simp))
    go_wp2
    go_ret
    exact ⟨ret_bool HF.out, hb⟩
  obtain ⟨sh, HSH⟩ : ∃ sh, Hid (shapeOk s y l = sh) := ⟨_, rfl⟩
  obtain rfl : sh = true := HSH.out.symm.trans hsh
  clear hsh
  go_enter Tryz.func44, Tryz.ntmps44
  go_wp2_with fail
  refine (spec_shok s y l _).mono ?_
  rintro u w1 ⟨rfl, hb1⟩
  rw [HSH.out]
  have hb := ((Below.refl _ w).alloc (Nat.le_refl _) (.cells #[.int .i64 s, .int .i64 y, .int .i64 l, .slice a n cap] 67)).trans (hb1.mono (by simp))
  have B0 := (Bk.new w #[.int .i64 s, .int .i64 y, .int .i64 l, .slice a n cap] 67 w.heap.size rfl).below hb1
  have k0 := B0.cell 0 _ rfl
  have k1 := B0.cell 1 _ rfl
  have k3 := B0.cell 3 _ rfl
  have HR : Hid _ := RSeg.below HS.out.1 hb
  have HB : Hid _ := hb
  have HK : Hid _ := And.intro k1 k3
  clear hb hb1 B0
  by_cases hns : (n : Int) = s
  rotate_left
  · have HF : Hid (false = q) := told_no HQ.out (fun h => hns h.2.1)
    have hns' : ((n : Int) == s) = false := by simpa using hns
    clear hns
    go_wp2
    go_ret
    exact ⟨ret_bool HF.out, HB.out⟩
  have HN : Hid (CacheOkP s y l n D ↔ ∀ i, i < n → RowOk y (D i)) := ⟨fun h => h.2.2, fun h => ⟨HSH.out, hns, h⟩⟩
  subst hns
  go_wp2
  clear k0 k1 k3
  go_loopw [3] (fun i wr => ∃ r : Nat, r ≤ n ∧ i = .int .i64 r ∧ Hid (Below w1.heap.size w1 wr) ∧ Hid (∀ j, j < r → RowOk y (D j))) (fun i _ => n - (intOf i).toNat)
  case atStart => exact ⟨0, by omega, rfl, Below.refl _ _, fun j hj => absurd hj (by omega)⟩
  case round =>
    obtain ⟨r, hr, rfl, HW, HJ⟩ := hrel
    have k1 := kept_cell HW.out HK.out.1
    have k3 := kept_cell HW.out HK.out.2
    by_cases hlt : r < n
    rotate_left
    · obtain rfl : r = n := by omega
      go_wp2
      go_ret
      exact ⟨ret_bool (told_yes HQ.out (HN.out.2 HJ.out)), HB.out.trans (HW.out.mono HB.out.size)⟩
    have hlt' : (r : Int) < (n : Int) := by omega
    obtain ⟨b1, o1, a1, c1, rfl, hbl1, e1, s1⟩ := RSeg.at (w := w1) HR.out r hlt
    replace e1 := kept_cell HW.out e1
    have hlen : (D r).length ≤ 1048576 := Nat.le_trans (tot_row D hlt) HS.out.2
    have HF : Hid (¬ RowOk y (D r) → false = q) := fun h => told_no HQ.out (fun g => h (HN.out.1 g r hlt))
    have HT : Hid (RowOk y (D r) → ∀ j, j < r + 1 → RowOk y (D j)) := fun g j hj => by
      by_cases e : j = r
      · subst e; exact g
      · exact HJ.out j (by omega)
    have HX : Hid _ := s1
    generalize D r = ws at e1 hlen HF HT HX
    clear s1 hbl1 HJ
    by_cases hy : y < (ws.length : Int)
    · have HF2 : Hid _ := HF.out (fun g => by have := g.1; omega)
      generalize ws.length = len at e1 hlen hy
      go_wp2
      go_ret
      exact ⟨ret_bool HF2.out, HB.out.trans (HW.out.mono HB.out.size)⟩
    have HL : Hid ((ws.length : Int) ≤ y) := by show _ ≤ _; omega
    obtain ⟨len, Hlen⟩ : ∃ len, Hid (ws.length = len) := ⟨_, rfl⟩
    rw [Hlen.out] at e1 hlen hy
    go_wp2
    clear k1 k3 e1
    go_loopw [5] (fun i wr' => ∃ i' : Nat, i' ≤ len ∧ i = .int .i64 i' ∧ Hid (Below w1.heap.size w1 wr') ∧ Hid (∀ j, j < i' → rowGood ws j)) (fun i _ => len - (intOf i).toNat)
    case atStart => exact ⟨0, by omega, rfl, HW, fun j hj => absurd hj (by omega)⟩
    case round =>
      obtain ⟨i, hi, rfl, HW2, HG⟩ := hrel
      clear HW
      by_cases hil : i < len
      rotate_left
      · obtain rfl : i = len := by omega
        have HT2 : Hid _ := HT.out ⟨HL.out, fun j hj => HG.out j (by rw [← Hlen.out]; exact hj)⟩
        go_wp2
        go_roundw
        case rel => exact ⟨r + 1, by omega, by go_num, HW2, HT2⟩
        case measure => simp [intOf]; omega
      have hil' : (i : Int) < (len : Int) := by omega
      obtain ⟨b2, o2, rfl, hbl2, c2, d2⟩ := WSeg.at (w := w1) HX.out i (by rw [Hlen.out]; exact hil)
      have HF3 : Hid (¬ rowGood ws i → false = q) := fun h => HF.out (fun g => h (g.2 i (by rw [Hlen.out]; exact hil)))
      have HT3 : Hid (rowGood ws i → ∀ j, j < i + 1 → rowGood ws j) := fun g j hj => by
        by_cases e : j = i
        · subst e; exact g
        · exact HG.out j (by omega)
      replace c2 := kept_cell HW2.out c2
      have HRG : Hid (rowGood ws i ↔ (0 ≤ tg ws i ∧ tg ws i ≤ 65535) ∧ ∀ k, k < i → tg ws k ≠ tg ws i) := Iff.rfl
      have HC2 : Hid (w1.cell? ⟨b2, o2 + i * 2, none⟩ = some (.int .i64 (ws.getD i wd).1)) := by
        obtain ⟨b, o, e, _, g, _⟩ := WSeg.at (w := w1) HX.out i (by rw [Hlen.out]; exact hil)
        cases e; exact g
      change _ = some (Value.int .i64 (tg ws i)) at c2
      change Hid (_ = some (Value.int .i64 (tg ws i))) at HC2
      generalize rowGood ws i = G at HF3 HT3 HRG
      generalize tg ws i = z at c2 HC2 HRG
      clear d2 hbl2 HG
      obtain ⟨qz, HQZ⟩ : ∃ qz, Hid (inr z 0 65535 = qz) := ⟨_, rfl⟩
      go_wp2_with fail
      refine (in_any z 0 65535 _).mono ?_
      rintro u w3 ⟨rfl, rfl⟩
      rw [HQZ.out]
      cases qz
      · have HF4 : Hid _ := HF3.out (fun g => by
          have := (HRG.out.1 g).1
          have h2 := inr_yes this
          rw [HQZ.out] at h2
          cases h2)
        go_wp2
        go_ret
        exact ⟨ret_bool HF4.out, HB.out.trans (HW2.out.mono HB.out.size)⟩
      have HZ : Hid _ := of_inr HQZ.out
      clear HQZ c2
      go_wp2
      go_loopw [6] (fun kk wr' => ∃ k : Nat, k ≤ i ∧ kk = .int .i64 k ∧ Hid (Below w1.heap.size w1 wr') ∧ Hid (∀ j, j < k → tg ws j ≠ z)) (fun kk _ => i - (intOf kk).toNat)
      case atStart => exact ⟨0, by omega, rfl, HW2, fun j hj => absurd hj (by omega)⟩
      case round =>
        obtain ⟨k, hk, rfl, HW3, HK3⟩ := hrel
        clear HW2
        by_cases hki : k < i
        rotate_left
        · obtain rfl : k = i := by omega
          have HT4 : Hid _ := HT3.out (HRG.out.2 ⟨HZ.out, HK3.out⟩)
          go_wp2
          go_roundw
          case rel => exact ⟨k + 1, by omega, by go_num, HW3, HT4⟩
          case measure => simp [intOf]; omega
        have hki' : (k : Int) < (i : Int) := by omega
        have c2 := kept_cell HW3.out HC2.out
        obtain ⟨b4, o4, e4, _, c4, _⟩ := WSeg.at (w := w1) HX.out k (by rw [Hlen.out]; omega)
        cases e4
        replace c4 := kept_cell HW3.out c4
        change _ = some (Value.int .i64 (tg ws k)) at c4
        have HF5 : Hid (tg ws k = z → false = q) := fun e => HF3.out (fun g => (HRG.out.1 g).2 k hki e)
        have HT5 : Hid (tg ws k ≠ z → ∀ j, j < k + 1 → tg ws j ≠ z) := fun g j hj => by
          by_cases e : j = k
          · subst e; exact g
          · exact HK3.out j (by omega)
        generalize tg ws k = v at c4 HF5 HT5
        have hkl : (k : Int) < (len : Int) := by omega
        by_cases hv : v = z
        · have hv' : (v == z) = true := by simpa using hv
          have HF6 : Hid _ := HF5.out hv
          clear hv HK3 HT5 HF5
          go_wp2
          go_quiet (fail)
          go_wp2
          go_ret
          exact ⟨ret_bool HF6.out, below_drewN (HB.out.trans (HW3.out.mono HB.out.size)) _⟩
        · have hv' : (v == z) = false := by simpa using hv
          have HT6 : Hid _ := HT5.out hv
          clear hv HK3 HT5 HF5
          go_wp2
          go_quiet (fail)
          go_wp2
          go_roundw
          case rel => exact ⟨k + 1, by omega, by go_num, below_drewN HW3.out _, HT6⟩
          case measure => simp [intOf]; omega
theorem hasT_take {ws : List Wy} {k : Nat} (hk : k ≤ ws.length) (t : Int) : hasT (ws.take k) t = true ↔ ∃ j, j < k ∧ tg ws j = t := by
  have hg : ∀ j, j < k → (ws.take k).getD j wd = ws.getD j wd := fun j hj => by simp only [List.getD, List.getElem?_take]; rw [if_pos hj]
  have hl : (ws.take k).length = k := by rw [List.length_take]; omega
  constructor
  · intro h
    by_cases c : ∃ j, j < k ∧ tg ws j = t
    · exact c
    · rw [hasT_no (fun j hj => ?_)] at h
      · cases h
      · rw [hl] at hj
        rw [hg j hj]
        exact fun e => c ⟨j, hj, e⟩
  · rintro ⟨j, hj, e⟩
    refine hasT_yes (k := j) (by omega) ?_
    rw [hg j hj]
    exact e
theorem WSeg.take {w : World} {a : Option Addr} {ws : List Wy} (h : WSeg w a ws) (k : Nat) (hk : k ≤ ws.length) : WSeg w a (ws.take k) := fun h0 => by
  have hl : (ws.take k).length = k := by rw [List.length_take]; omega
  obtain ⟨b, off, e, hlt, hc⟩ := h (by omega)
  refine ⟨b, off, e, hlt, fun i hi => ?_⟩
  have hg : (ws.take k).getD i wd = ws.getD i wd := by simp only [List.getD, List.getElem?_take]; rw [if_pos (by omega)]
  rw [hg]
  exact hc i (by omega)
set_option maxRecDepth 100000 in
theorem slice_to (a : Option Addr) (len cap k : Nat) (h : k ≤ cap) (w : World) : (Instr.slice 194 (.slice a len cap) none (some (.int .i64 (k : Int))) none).run Tryz.prog w = .ok (.slice a k cap) w := by
  rw [run_slice_h w 194 a len cap Tryz.underlying194 .i64 (k : Int) (by omega) (by omega)]
  have e : ∀ w, (sizeOf (Tryz.prog.elem 194)).run Tryz.prog w = .ok 2 w := fun w => by kernel_rfl
  cases a <;> simp [e, sliced, Addr.add]
set_option maxHeartbeats 2000000 in
theorem impl_rowk (s y l : Int) (a : Option Addr) (cap len : Nat) (ws : List Wy) (w : World) (hs : WSeg w a ws) (hlen : ws.length = len) (hn : len ≤ 1048576) (hcap : len ≤ cap) (q : Bool) (hq : q = true ↔ RowOk y ws) :
    Calls Tryz.prog 208 #[shp s y l, .slice a len cap] w fun e w' => e = .returned (.bool q) ∧ Below w.heap.size w w' := by
  have HS : Hid _ := And.intro hs hlen
  have HQ : Hid _ := hq
  have HB : Hid _ := (Below.refl _ w).alloc (Nat.le_refl _) (shrow 54 s y l)
  clear hs hq hlen
  by_cases hy : y < (len : Int)
  · have HF : Hid (false = q) := told_no HQ.out (fun h => by have := h.1; rw [HS.out.2] at this; omega)
    go_enter Tryz.func208, Tryz.ntmps208
    go_wp2
    go_ret
    exact ⟨ret_bool HF.out, HB.out⟩
  have HG : Hid (RowOk y ws ↔ ∀ i, i < len → rowGood ws i) := ⟨fun h i hi => h.2 i (by rw [HS.out.2]; exact hi), fun h => ⟨by rw [HS.out.2]; omega, fun i hi => h i (by rw [← HS.out.2]; exact hi)⟩⟩
  go_enter Tryz.func208, Tryz.ntmps208
  go_wp2
  go_loopw [15] (fun i wr => ∃ k : Nat, k ≤ len ∧ i = .int .i64 k ∧ Hid (Below w.heap.size w wr) ∧ Hid (∀ j, j < k → rowGood ws j)) (fun i _ => len - (intOf i).toNat)
  case atStart => exact ⟨0, by omega, rfl, HB, fun j hj => absurd hj (by omega)⟩
  case round =>
    obtain ⟨k, hk, rfl, HW, HJ⟩ := hrel
    clear HB
    by_cases hlt : k < len
    rotate_left
    · obtain rfl : k = len := by omega
      go_wp2
      go_ret
      exact ⟨ret_bool (told_yes HQ.out (HG.out.2 HJ.out)), HW.out⟩
    have hlt' : (k : Int) < (len : Int) := by omega
    obtain ⟨b1, o1, rfl, hbl1, c1, d1⟩ := WSeg.at (w := w) HS.out.1 k (by rw [HS.out.2]; exact hlt)
    replace c1 := kept_cell HW.out c1
    replace d1 := kept_cell HW.out d1
    change _ = some (Value.int .i64 (tg ws k)) at c1
    generalize (ws.getD k wd).2 = d at d1
    have HRG : Hid (rowGood ws k ↔ (0 ≤ tg ws k ∧ tg ws k ≤ 65535) ∧ ∀ j, j < k → tg ws j ≠ tg ws k) := Iff.rfl
    have HF : Hid (¬ rowGood ws k → false = q) := fun h => told_no HQ.out (fun g => h (HG.out.1 g k hlt))
    have HT : Hid (rowGood ws k → ∀ j, j < k + 1 → rowGood ws j) := fun g j hj => by
      by_cases e : j = k
      · subst e; exact g
      · exact HJ.out j (by omega)
    have HTK : Hid (hasT (ws.take k) (tg ws k) = true ↔ ∃ j, j < k ∧ tg ws j = tg ws k) := hasT_take (by rw [HS.out.2]; omega) _
    generalize rowGood ws k = G at HRG HF HT
    generalize tg ws k = z at c1 HRG HTK
    clear hbl1 HJ
    obtain ⟨tw, HTW⟩ : ∃ tw, Hid (hasT (ws.take k) z = tw) := ⟨_, rfl⟩
    have hsl := slice_to (some ⟨b1, o1, none⟩) len cap k (by omega)
    have c6 := new_cell wr #[.int .i64 z, .bool d] 196 0 _ rfl
    have hb : Below w.heap.size w (wr.alloc (.cells #[.int .i64 z, .bool d] 196)) := HW.out.alloc HW.out.size _
    have HH : Hid (∀ X, Calls Tryz.prog 250 #[.int .i64 z] X fun e w' => ∃ B, e = .returned (tagF B) ∧ Below X.heap.size X w' ∧ w'.cell? ⟨B, 0, none⟩ = some (.int .i64 z)) := fun X => has_tag' z X
    have HC : Hid (∀ X B, Below w.heap.size w X → X.cell? ⟨B, 0, none⟩ = some (.int .i64 z) → Calls Tryz.prog 249 #[.slice (some ⟨b1, o1, none⟩) k cap, tagF B] X fun e w' => e = .returned (.bool tw) ∧ Below X.heap.size X w') := fun X B hX hc => by
      have := has_fn (some ⟨b1, o1, none⟩) cap k B (ws.take k) z X (WSeg.take (WSeg.below HS.out.1 hX) k (by rw [HS.out.2]; omega)) (by rw [List.length_take, HS.out.2]; omega) (by omega) hc
      rw [HTW.out] at this
      exact this
    clear HW
    go_wp2
    go_region_held3 (fun w' => w'.cell? ⟨wr.heap.size, 0, none⟩ = some (.int .i64 z)) (first | exact c6) (first | (go_at_call 250; refine Calls.mono (HH.out _) ?_; rintro u w9 ⟨B9, rfl, hbb, c9⟩; (first | replace hb := hb.trans (hbb.mono hb.size) | replace hb := hb.drew.trans (hbb.mono hb.drew.size)); replace c6 := kept_cell hbb c6; clear hbb) | (go_at_call 249; refine Calls.mono (HC.out _ _ (by first | exact hb | exact hb.drew) c9) ?_; rintro u w8 ⟨rfl, hbb⟩; (first | replace hb := hb.trans (hbb.mono hb.size) | replace hb := hb.drew.trans (hbb.mono hb.drew.size)); replace c6 := kept_cell hbb c6; clear hbb))
    have HB : Hid _ := hb
    clear hb c9 HC HH hsl
    by_cases h1 : z < 0
    · have HF2 : Hid _ := HF.out (fun g => by have := (HRG.out.1 g).1; omega)
      go_wp2
      go_ret
      exact ⟨ret_bool HF2.out, HB.out⟩
    by_cases h2 : 65535 < z
    · have HF2 : Hid _ := HF.out (fun g => by have := (HRG.out.1 g).1; omega)
      go_wp2
      go_ret
      exact ⟨ret_bool HF2.out, HB.out⟩
    cases tw
    · have HT2 : Hid _ := HT.out (HRG.out.2 ⟨by omega, fun j hj e => by
        have := HTK.out.2 ⟨j, hj, e⟩
        rw [HTW.out] at this
        cases this⟩)
      go_wp2
      go_roundw
      case rel => exact ⟨k + 1, by omega, by go_num, HB, HT2⟩
      case measure => simp [intOf]; omega
    · have HF2 : Hid _ := HF.out (fun g => by
        obtain ⟨j, hj, e⟩ := HTK.out.1 HTW.out
        exact (HRG.out.1 g).2 j hj e)
      go_wp2
      go_ret
      exact ⟨ret_bool HF2.out, HB.out⟩
set_option maxHeartbeats 2000000 in
theorem impl_cachek (s y l : Int) (a : Option Addr) (cap n : Nat) (D : Nat → List Wy) (w : World) (hs : RSeg w a n D) (hn : n ≤ 1048576) (ht : tot D n ≤ 1048576) (q : Bool) (hq : q = true ↔ CacheOkP s y l n D) :
    Calls Tryz.prog 141 #[cch s y l (.slice a n cap)] w fun e w' => e = .returned (.bool q) ∧ Below w.heap.size w w' := by
  have HS : Hid _ := And.intro hs ht
  have HQ : Hid _ := hq
  clear hs ht hq
  by_cases hsh : shapeOk s y l = true
  rotate_left
  · have hsh' : shapeOk s y l = false := by simpa using hsh
    have HF : Hid (false = q) := told_no HQ.out (fun h => hsh h.1)
    clear hsh
    go_enter Tryz.func141, Tryz.ntmps141
    go_wp2_with fail
    refine (impl_shok s y l _).mono ?_
    rintro u w1 ⟨rfl, hb1⟩
    rw [hsh']
    have hb := ((Below.refl _ w).alloc (Nat.le_refl _) (.cells #[.int .i64 s, .int .i64 y, .int .i64 l, .slice a n cap] 67)).trans (hb1.mono (by simp))
    go_wp2
    go_ret
    exact ⟨ret_bool HF.out, hb⟩
  obtain ⟨sh, HSH⟩ : ∃ sh, Hid (shapeOk s y l = sh) := ⟨_, rfl⟩
  obtain rfl : sh = true := HSH.out.symm.trans hsh
  clear hsh
  go_enter Tryz.func141, Tryz.ntmps141
  go_wp2_with fail
  refine (impl_shok s y l _).mono ?_
  rintro u w1 ⟨rfl, hb1⟩
  rw [HSH.out]
  have hb := ((Below.refl _ w).alloc (Nat.le_refl _) (.cells #[.int .i64 s, .int .i64 y, .int .i64 l, .slice a n cap] 67)).trans (hb1.mono (by simp))
  have B0 := (Bk.new w #[.int .i64 s, .int .i64 y, .int .i64 l, .slice a n cap] 67 w.heap.size rfl).below hb1
  have k0 := B0.cell 0 _ rfl
  have k1 := B0.cell 1 _ rfl
  have k2 := B0.cell 2 _ rfl
  have k3 := B0.cell 3 _ rfl
  have HR : Hid _ := RSeg.below HS.out.1 hb
  have HB : Hid _ := hb
  clear hb hb1 B0
  by_cases hns : (n : Int) = s
  rotate_left
  · have HF : Hid (false = q) := told_no HQ.out (fun h => hns h.2.1)
    have hns' : ((n : Int) == s) = false := by simpa using hns
    clear hns
    go_wp2
    go_ret
    exact ⟨ret_bool HF.out, HB.out⟩
  have HN : Hid (CacheOkP s y l n D ↔ ∀ i, i < n → RowOk y (D i)) := ⟨fun h => h.2.2, fun h => ⟨HSH.out, hns, h⟩⟩
  subst hns
  have HK : Hid _ := And.intro k0 (And.intro k1 k2)
  go_wp2
  clear k0 k1 k2 k3
  go_loopw [21] (fun i wr => ∃ r : Nat, r ≤ n ∧ i = .int .i64 r ∧ Hid (Below w1.heap.size w1 wr) ∧ Hid (∀ j, j < r → RowOk y (D j))) (fun i _ => n - (intOf i).toNat)
  case atStart => exact ⟨0, by omega, rfl, Below.refl _ _, fun j hj => absurd hj (by omega)⟩
  case round =>
    obtain ⟨r, hr, rfl, HW, HJ⟩ := hrel
    by_cases hlt : r < n
    rotate_left
    · obtain rfl : r = n := by omega
      go_wp2
      go_ret
      exact ⟨ret_bool (told_yes HQ.out (HN.out.2 HJ.out)), HB.out.trans (HW.out.mono HB.out.size)⟩
    have k0 := kept_cell HW.out HK.out.1
    have k1 := kept_cell HW.out HK.out.2.1
    have k2 := kept_cell HW.out HK.out.2.2
    have hlt' : (r : Int) < (n : Int) := by omega
    obtain ⟨b1, o1, a1, c1, rfl, hbl1, e1, s1, hc1⟩ := RSeg.at' (w := w1) HR.out r hlt
    replace e1 := kept_cell HW.out e1
    obtain ⟨qr, hqr⟩ := told (RowOk y (D r))
    have HC : Hid _ := impl_rowk (n : Int) y l a1 c1 (D r).length (D r) wr (s1.below HW.out) rfl (Nat.le_trans (tot_row D hlt) HS.out.2) hc1 qr hqr
    have HF : Hid (¬ RowOk y (D r) → false = q) := fun h => told_no HQ.out (fun g => h (HN.out.1 g r hlt))
    have HT : Hid (RowOk y (D r) → ∀ j, j < r + 1 → RowOk y (D j)) := fun g j hj => by
      by_cases e : j = r
      · subst e; exact g
      · exact HJ.out j (by omega)
    have HQR : Hid _ := hqr
    generalize RowOk y (D r) = G at HF HT HQR
    generalize (D r).length = len at e1 HC
    clear s1 hbl1 HJ hqr hc1
    go_wp2_with fail
    refine Calls.mono HC.out ?_
    rintro u w2 ⟨rfl, hbb⟩
    have HW2 : Hid _ := HW.out.trans (hbb.mono HW.out.size)
    clear hbb HW HC k0 k1 k2 e1
    cases qr
    · have HF2 : Hid _ := HF.out (fun g => by have := HQR.out.2 g; cases this)
      go_wp2
      go_ret
      exact ⟨ret_bool HF2.out, HB.out.trans (HW2.out.mono HB.out.size)⟩
    · have HT2 : Hid _ := HT.out (HQR.out.1 rfl)
      go_wp2
      go_roundw
      case rel => exact ⟨r + 1, by omega, by go_num, HW2, HT2⟩
      case measure => simp [intOf]; omega
end Cw
end Go.Proofs.YtknipnenipdgiaaGreatDoor
