
/-
  Whether a list of windows is right: the program's own function, by the tests of every one and of every two. Conditions: the sizes are numbers of 64 bits; the slice's capacity is at least its length.
-/
import Derived.Test.YtanffdedignegaaBas
import Derived.Test.YtanffdedignegaaGen
import Derived.Test.YtanffdedignegaaWso
import Derived.Test.YtanffdedignegaaApj
import Derived.Shelf.Abstract
import Derived.BigQuiet
import Derived.Deep.RegionHeldLaw
import Derived.Lib.SmallJoins
namespace Go.Proofs.Ytanffdedignegaa
open Go.ChangeShapes Go.WideShapes Go.ChangeAt Go.RowKit Go.Deep Go.Joins
set_option linter.unusedVariables false

theorem cell0 {w : World} {b : Nat} {vs : List Value} (h : CellsAt w b 0 vs) (j : Nat) {v : Value} (hj : vs[j]? = some v) : w.cell? ⟨b, j, none⟩ = some v := by
  have := h j v hj
  rw [Nat.zero_add] at this
  exact this
abbrev wiT := Int × Int × Int
abbrev wi0 : wiT := (0, 0, 0)
def wiL (x : wiT) : List Value := [.int .i64 x.1, .int .i64 x.2.1, .int .i64 x.2.2]
def wiX (xs : List wiT) : Nat → List Value := fun i => wiL (xs.getD i wi0)
abbrev wiV (x : wiT) : Value := .agg #[.int .i64 x.1, .int .i64 x.2.1, .int .i64 x.2.2]
theorem wi_cells {w : World} {b o : Nat} {x : wiT} (h : CellsAt w b o (wiL x)) : w.cell? ⟨b, o, none⟩ = some (.int .i64 x.1) ∧ w.cell? ⟨b, o + 1, none⟩ = some (.int .i64 x.2.1) ∧ w.cell? ⟨b, o + 2, none⟩ = some (.int .i64 x.2.2) :=
  ⟨h 0 _ rfl, h 1 _ rfl, h 2 _ rfl⟩
set_option maxRecDepth 20000 in
set_option maxHeartbeats 1000000 in
theorem wi_every (a : Option Addr) (cap n : Nat) (xs : List wiT) (P : Nat → Bool) (q : Bool) (fid : Nat) (caps : Array Value) (w : World) (hs : GSeg 3 w a n (wiX xs)) (hn : n ≤ 9223372036854775807) (hen : ∀ args (v : World), (callFunc fid args).run Try.prog v = .ok (.enter fid args) v)
    (hf : ∀ i, i < n → ∀ X, Below w.heap.size w X → Calls Try.prog fid (#[wiV (xs.getD i wi0)] ++ caps) X fun e w' => e = .returned (.bool (P i)) ∧ Below X.heap.size X w')
    (hq : q = true ↔ ∀ i, i < n → P i = true) :
    Calls Try.prog 40 #[.slice a n cap, .func (.func fid) #[] caps] w fun e w' => e = .returned (.bool q) ∧ Below w.heap.size w w' := by
  have HQ : Hid (q = true ↔ ∀ i, i < n → P i = true) := hq
  have HS : Hid (GSeg 3 w a n (wiX xs)) := hs
  have HF : Hid (∀ i, i < n → ∀ X, Below w.heap.size w X → Calls Try.prog fid (#[wiV (xs.getD i wi0)] ++ caps) X fun e w' => e = .returned (.bool (P i)) ∧ Below X.heap.size X w') := hf
  clear hq hs hf
  go_enter Try.func40, Try.ntmps40
  go_wp2
  go_loopw [9] (fun i wr => ∃ m : Nat, m ≤ n ∧ i = .int .i64 m ∧ Hid (Below w.heap.size w wr ∧ ∀ j, j < m → P j = true)) (fun i _ => n - (intOf i).toNat)
  case atStart => exact ⟨0, by omega, rfl, Below.refl _ _, fun i hi => absurd hi (by omega)⟩
  case round =>
    obtain ⟨m, hm, rfl, HR⟩ := hrel
    by_cases hmn : m < n
    rotate_left
    · obtain rfl : m = n := by omega
      have HT : Hid (q = true) := HQ.out.2 HR.out.2
      go_wp2
      go_ret
      exact ⟨ret_bool HT.out.symm, HR.out.1⟩
    have hmn' : (m : Int) < (n : Int) := by omega
    obtain ⟨b1, o1, rfl, hbl1, p1⟩ := HS.out.at m hmn
    replace p1 := p1.of (w' := wr) (fun j => HR.out.1.cell (p := ⟨b1, j, none⟩) hbl1)
    have HFm : Hid _ := HF.out m hmn
    have HPm : Hid (P m = false → q = false) := fun h => not_true HQ.out (fun g => by rw [g m hmn] at h; cases h)
    have HPt : Hid (P m = true → ∀ j, j < m + 1 → P j = true) := fun h j hj => by
      by_cases e : j = m
      · subst e; exact h
      · exact HR.out.2 j (by omega)
    simp only [wiX] at p1
    generalize xs.getD m wi0 = x at p1 HFm
    generalize P m = pm at HFm HPm HPt
    obtain ⟨c0, c1, c2⟩ := wi_cells p1
    obtain ⟨x1, x2, x3⟩ := x
    simp only [wiV] at c0 c1 c2 HFm
    have hb0 : Hid (Below w.heap.size w (wr.alloc (.cells #[.int .i64 x1, .int .i64 x2, .int .i64 x3] 40))) := HR.out.1.alloc HR.out.1.size _
    clear p1 hbl1
    go_wp2_with fail
    refine (HFm.out _ hb0.out).mono ?_
    rintro u w1 ⟨rfl, hb1⟩
    have HB1 : Hid (Below w.heap.size w w1) := hb0.out.trans (hb1.mono hb0.out.size)
    clear hb1 hb0 c0 c1 c2
    cases pm
    · have HT : Hid (q = false) := HPm.out (by trivial)
      go_wp2
      go_ret
      exact ⟨ret_bool HT.out.symm, HB1.out⟩
    · have HT : Hid _ := HPt.out (by trivial)
      go_wp2
      go_roundw
      case rel => exact ⟨m + 1, by omega, by go_num, HB1.out, HT.out⟩
      case measure => simp [intOf]; omega
set_option maxRecDepth 40000 in
set_option maxHeartbeats 4000000 in
theorem win_two (a : Option Addr) (cap n : Nat) (xs : List wiT) (P : Nat → Nat → Bool) (q : Bool) (fid : Nat) (caps : Array Value) (w : World) (hs : GSeg 3 w a n (wiX xs)) (hn : n ≤ 9223372036854775807) (hc : n ≤ cap) (hen : ∀ args (v : World), (callFunc fid args).run Try.prog v = .ok (.enter fid args) v)
    (hf : ∀ i, i < n → ∀ j, j < i → ∀ X, Below w.heap.size w X → Calls Try.prog fid (#[wiV (xs.getD j wi0), wiV (xs.getD i wi0)] ++ caps) X fun e w' => e = .returned (.bool (P j i)) ∧ Below X.heap.size X w')
    (hq : q = true ↔ ∀ i, i < n → ∀ j, j < i → P j i = true) :
    Calls Try.prog 42 #[.slice a n cap, .func (.func fid) #[] caps] w fun e w' => e = .returned (.bool q) ∧ Below w.heap.size w w' := by
  have HQ : Hid (q = true ↔ ∀ i, i < n → ∀ j, j < i → P j i = true) := hq
  have HS : Hid (GSeg 3 w a n (wiX xs)) := hs
  have HF : Hid (∀ i, i < n → ∀ j, j < i → ∀ X, Below w.heap.size w X → Calls Try.prog fid (#[wiV (xs.getD j wi0), wiV (xs.getD i wi0)] ++ caps) X fun e w' => e = .returned (.bool (P j i)) ∧ Below X.heap.size X w') := hf
  clear hq hs hf
  go_enter Try.func42, Try.ntmps42
  go_wp2
  go_loopw [11] (fun i wr => ∃ m : Nat, m ≤ n ∧ i = .int .i64 m ∧ Hid (Below w.heap.size w wr ∧ ∀ i, i < m → ∀ j, j < i → P j i = true)) (fun i _ => n - (intOf i).toNat)
  case atStart => exact ⟨0, by omega, rfl, Below.refl _ _, fun i hi => absurd hi (by omega)⟩
  case round =>
    obtain ⟨m, hm, rfl, HR⟩ := hrel
    by_cases hmn : m < n
    rotate_left
    · obtain rfl : m = n := by omega
      have HT : Hid (q = true) := HQ.out.2 HR.out.2
      go_wp2
      go_ret
      exact ⟨ret_bool HT.out.symm, HR.out.1⟩
    have hmn' : (m : Int) < (n : Int) := by omega
    have hmc' : (m : Int) ≤ (cap : Int) := by omega
    obtain ⟨b1, o1, rfl, hbl1, p0⟩ := HS.out.at m hmn
    have HP : Hid (∀ X, Below w.heap.size w X → ∀ i, i < n → CellsAt X b1 (o1 + i * 3) (wiX xs i)) := fun X hX i hi => by
      obtain ⟨b2, o2, e, hbl2, p2⟩ := HS.out.at i hi
      cases e
      exact p2.of (fun j => hX.cell (p := ⟨b1, j, none⟩) hbl1)
    have pc := HP.out _ HR.out.1 m hmn
    simp only [wiX] at pc
    obtain ⟨c0, c1, c2⟩ := wi_cells pc
    clear pc
    have HFm : Hid _ := HF.out m hmn
    have HPf : Hid (∀ j, j < m → P j m = false → q = false) := fun j hj h => not_true HQ.out (fun g => by rw [g m hmn j hj] at h; cases h)
    have HPt : Hid ((∀ j, j < m → P j m = true) → ∀ i, i < m + 1 → ∀ j, j < i → P j i = true) := fun h i hi j hj => by
      by_cases e : i = m
      · subst e; exact h j hj
      · exact HR.out.2 i (by omega) j hj
    generalize xs.getD m wi0 = y at c0 c1 c2 HFm
    generalize hpm : (fun j => P j m) = pm at *
    replace HFm : Hid (∀ j, j < m → ∀ X, Below w.heap.size w X → Calls Try.prog fid (#[wiV (xs.getD j wi0), wiV y] ++ caps) X fun e w' => e = .returned (.bool (pm j)) ∧ Below X.heap.size X w') := fun j hj X hX => by rw [← hpm]; exact HFm.out j hj X hX
    replace HPf : Hid (∀ j, j < m → pm j = false → q = false) := fun j hj h => HPf.out j hj (by rw [← hpm] at h; exact h)
    replace HPt : Hid ((∀ j, j < m → pm j = true) → ∀ i, i < m + 1 → ∀ j, j < i → P j i = true) := fun h => HPt.out (fun j hj => by have := h j hj; rw [← hpm] at this; exact this)
    clear hpm
    obtain ⟨y1, y2, y3⟩ := y
    simp only at c0 c1 c2
    have HK0 : Hid (Below w.heap.size w (wr.alloc (.cells #[.int .i64 y1, .int .i64 y2, .int .i64 y3] 40)) ∧ CellsAt (wr.alloc (.cells #[.int .i64 y1, .int .i64 y2, .int .i64 y3] 40)) wr.heap.size 0 [.int .i64 y1, .int .i64 y2, .int .i64 y3]) := ⟨HR.out.1.alloc HR.out.1.size _, CellsAt.new wr [.int .i64 y1, .int .i64 y2, .int .i64 y3] 40 _ rfl⟩
    clear p0 hbl1
    go_wp2
    clear c0 c1 c2 HR
    revert HK0
    generalize (wr.alloc (.cells #[.int .i64 y1, .int .i64 y2, .int .i64 y3] 40)) = V0
    generalize wr.heap.size = B1
    intro HK0
    go_loopw [20] (fun i wq => ∃ k : Nat, k ≤ m ∧ i = .int .i64 k ∧ Hid (Below w.heap.size w wq ∧ CellsAt wq B1 0 [.int .i64 y1, .int .i64 y2, .int .i64 y3] ∧ ∀ j, j < k → pm j = true)) (fun i _ => m - (intOf i).toNat)
    case atStart => exact ⟨0, by omega, rfl, HK0.out.1, HK0.out.2, fun i hi => absurd hi (by omega)⟩
    case round =>
      rename World => wq
      obtain ⟨k, hk, rfl, HR2⟩ := hrel
      by_cases hkm : k < m
      rotate_left
      · obtain rfl : k = m := by omega
        have HR3 : Hid _ := HPt.out HR2.out.2.2
        go_wp2
        go_roundw
        case rel => exact ⟨k + 1, by omega, by go_num, HR2.out.1, HR3.out⟩
        case measure => simp [intOf]; omega
      have hkm' : (k : Int) < (m : Int) := by omega
      have pd := HP.out _ HR2.out.1 k (by omega)
      simp only [wiX] at pd
      obtain ⟨d0, d1, d2⟩ := wi_cells pd
      clear pd
      have HFk : Hid _ := HFm.out k hkm
      have HPk : Hid (pm k = false → q = false) := HPf.out k hkm
      have HPs : Hid (pm k = true → ∀ j, j < k + 1 → pm j = true) := fun h j hj => by
        by_cases e : j = k
        · subst e; exact h
        · exact HR2.out.2.2 j (by omega)
      generalize xs.getD k wi0 = z at d0 d1 d2 HFk
      generalize pm k = pk at HFk HPk HPs
      obtain ⟨z1, z2, z3⟩ := z
      simp only [wiV] at d0 d1 d2 HFk
      have hal : Below wq.heap.size wq (wq.alloc (.cells #[.int .i64 z1, .int .i64 z2, .int .i64 z3] 40)) := (Below.refl _ _).alloc (Nat.le_refl _) _
      have hK2 := HR2.out.2.1.below hal
      have e0 := cell0 hK2 0 rfl
      have e1 := cell0 hK2 1 rfl
      have e2 := cell0 hK2 2 rfl
      have HAL : Hid (Below w.heap.size w (wq.alloc (.cells #[.int .i64 z1, .int .i64 z2, .int .i64 z3] 40)) ∧ CellsAt (wq.alloc (.cells #[.int .i64 z1, .int .i64 z2, .int .i64 z3] 40)) B1 0 [.int .i64 y1, .int .i64 y2, .int .i64 y3]) := ⟨HR2.out.1.trans (hal.mono HR2.out.1.size), hK2⟩
      clear hal hK2
      go_wp2_with fail
      refine (HFk.out _ HAL.out.1).mono ?_
      rintro u W1 ⟨rfl, hb2⟩
      have HB2 : Hid (Below w.heap.size w W1 ∧ CellsAt W1 B1 0 [.int .i64 y1, .int .i64 y2, .int .i64 y3]) := ⟨HAL.out.1.trans (hb2.mono HAL.out.1.size), HAL.out.2.below hb2⟩
      clear hb2 d0 d1 d2 e0 e1 e2 HAL
      cases pk
      · have HT : Hid (q = false) := HPk.out (by trivial)
        go_wp2
        go_ret
        exact ⟨ret_bool HT.out.symm, HB2.out.1⟩
      · have HT : Hid _ := HPs.out (by trivial)
        go_wp2
        go_roundw
        case rel => exact ⟨k + 1, by omega, by go_num, HB2.out.1, HB2.out.2, HT.out⟩
        case measure => simp [intOf]; omega
theorem ASeg.gseg {w : World} {a : Option Addr} {xs : List Wn} {n : Nat} (h : ASeg w a xs) (hl : xs.length = n) : GSeg 3 w a n (wiX xs) := fun h0 => by
  obtain ⟨b, off, e, hlt, hc⟩ := h (by omega)
  refine ⟨b, off, e, hlt, fun i hi j v hj => ?_⟩
  obtain ⟨c0, c1, c2⟩ := hc i (by omega)
  match j, hj with
  | 0, hj => injection hj with hj; subst hj; exact c0
  | 1, hj => injection hj with hj; subst hj; exact c1
  | 2, hj => injection hj with hj; subst hj; exact c2
  | j + 3, hj => simp [wiX, wiL] at hj
set_option maxRecDepth 20000 in
theorem e_wok : ∀ args (v : World), (callFunc 41 args).run Try.prog v = .ok (.enter 41 args) v := enters_of Try.func41 (by kernel_rfl) rfl
set_option maxRecDepth 20000 in
theorem e_apart : ∀ args (v : World), (callFunc 43 args).run Try.prog v = .ok (.enter 43 args) v := enters_of Try.func43 (by kernel_rfl) rfl
set_option maxRecDepth 40000 in
set_option maxHeartbeats 4000000 in
theorem impl_wsok (a : Option Addr) (cap n : Nat) (xs : List Wn) (q : Bool) (w : World) (hs : ASeg w a xs) (hf : Fit xs) (hl : xs.length = n) (hn : n ≤ 9223372036854775807) (hc : n ≤ cap) (hq : q = true ↔ WsOk xs) :
    Calls Try.prog 24 #[.slice a n cap] w fun e w' => e = .returned (.bool q) ∧ Below w.heap.size w w' := by
  by_cases h4 : n ≤ 4
  rotate_left
  · have h4' : ¬ (n : Int) ≤ 4 := by omega
    have HT : Hid (q = false) := not_true hq (fun h => h4 (by rw [← hl]; exact h.1))
    clear hq hs hl hf
    go_enter Try.func24, Try.ntmps24
    go_wp2
    go_ret
    exact ⟨ret_bool HT.out.symm, Below.refl _ _⟩
  have h4' : (n : Int) ≤ 4 := by omega
  have hfit : ∀ i, i < n → (xs.getD i wi0).2.1 ≤ 9223372036854775807 := fun i hi => hf i (by rw [hl]; exact hi)
  have hd1 : ∀ i, ∃ b : Bool, (b = true ↔ WOk (xs.getD i wi0)) := fun i => told _
  have hd2 : ∀ j i, ∃ b : Bool, (b = true ↔ ApartP (xs.getD j wi0) (xs.getD i wi0)) := fun j i => told _
  obtain ⟨q1, hq1⟩ := told (∀ i, i < n → (hd1 i).choose = true)
  obtain ⟨q2, hq2⟩ := told (∀ i, i < n → ∀ j, j < i → (hd2 j i).choose = true)
  have HE : Hid (∀ X, Below w.heap.size w X → Calls Try.prog 40 #[.slice a n cap, .func (.func 41) #[] #[]] X fun e w' => e = .returned (.bool q1) ∧ Below X.heap.size X w') := fun X hX =>
    wi_every a cap n xs (fun i => (hd1 i).choose) q1 41 #[] X ((hs.gseg hl).below hX) hn e_wok (fun i hi Y hY => impl_wok _ _ _ _ Y (hfit i hi) (hd1 i).choose_spec) hq1
  have HT : Hid (∀ X, Below w.heap.size w X → Calls Try.prog 42 #[.slice a n cap, .func (.func 43) #[] #[]] X fun e w' => e = .returned (.bool q2) ∧ Below X.heap.size X w') := fun X hX =>
    win_two a cap n xs (fun j i => (hd2 j i).choose) q2 43 #[] X ((hs.gseg hl).below hX) hn hc e_apart (fun i hi j hj Y hY => impl_apart _ _ _ Y (hfit j (by omega)) (hfit i hi) (hd2 j i).choose_spec) hq2
  have HQ1 : Hid (q1 = false → q = false) := fun h => not_true hq (fun g => by
    rw [hq1.2 (fun i hi => (hd1 i).choose_spec.2 (g.2 i (by rw [hl]; exact hi)).1)] at h
    cases h)
  have HQ2 : Hid (q1 = true → q2 = q) := fun h1 => by
    cases hh : q2 with
    | true => exact (hq.2 ⟨by rw [hl]; exact h4, fun i hi => ⟨(hd1 i).choose_spec.1 (hq1.1 h1 i (by rw [← hl]; exact hi)), fun j hj => (hd2 j i).choose_spec.1 (hq2.1 hh i (by rw [← hl]; exact hi) j hj)⟩⟩).symm
    | false => exact (not_true hq (fun g => by
        rw [hq2.2 (fun i hi j hj => (hd2 j i).choose_spec.2 ((g.2 i (by rw [hl]; exact hi)).2 j hj))] at hh
        cases hh)).symm
  clear hq1 hq2 hfit hq hs hf hl hc h4
  clear hd1 hd2
  go_enter Try.func24, Try.ntmps24
  go_wp2_with fail
  refine Calls.mono (HE.out _ (Below.refl _ _)) ?_
  rintro e w1 ⟨rfl, hb1⟩
  have HB1 : Hid (Below w.heap.size w w1) := hb1
  clear hb1
  cases q1
  · have HQ : Hid (q = false) := HQ1.out (by trivial)
    clear HE HT HQ1 HQ2
    go_wp2
    go_ret
    exact ⟨ret_bool HQ.out.symm, HB1.out⟩
  have HQ : Hid (q2 = q) := HQ2.out (by trivial)
  clear HQ1 HQ2
  go_wp2_with fail
  refine Calls.mono (HT.out _ HB1.out) ?_
  rintro e w2 ⟨rfl, hb2⟩
  have HB2 : Hid (Below w.heap.size w w2) := HB1.out.trans (hb2.mono HB1.out.size)
  clear hb2 HE HT
  go_wp2
  go_ret
  exact ⟨ret_bool HQ.out, HB2.out⟩
end Go.Proofs.Ytanffdedignegaa
