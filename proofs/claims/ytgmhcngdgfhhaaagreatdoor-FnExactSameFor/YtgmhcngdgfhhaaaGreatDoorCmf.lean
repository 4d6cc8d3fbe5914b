
/-
  The commands that matter for a partition: the program's and the specification's. Conditions: the lists lie in memory; the program's table of extras holds what the program's text lays.
-/
import Derived.Test.YtgmhcngdgfhhaaaGreatDoorBas
import Derived.Test.YtgmhcngdgfhhaaaGreatDoorCmo
import Derived.Test.YtgmhcngdgfhhaaaGreatDoorJlw
namespace Go.Proofs.YtgmhcngdgfhhaaaGreatDoor
open Go.ChangeShapes Go.WideShapes Go.ChangeAt Go.RowKit Go.Deep Go.Joins
set_option linter.unusedVariables false

/-- A command without a word that nobody looks at. -/
def plC (x : cmT) : cmT := if x.1 = 1 then x else (x.1, x.2.1, 0)
/-- Whose a command is. -/
def partV (ds : List Int) (x : cmT) : Int := if x.1 = 1 ∧ 0 ≤ x.2.1 ∧ x.2.1 < (ds.length : Int) then ds.getD x.2.1.toNat 0 else if x.1 = 2 then x.2.1 else -1
def keepC (zs ds : List Int) (x : cmT) : Bool := decide (x.1 = 0) || decide (partV ds x ∈ zs)
def cfL (zs ds : List Int) (xs : List cmT) : Nat → List cmT
  | 0 => []
  | n + 1 => cfL zs ds xs n ++ (if keepC zs ds (xs.getD n cm0) then [plC (xs.getD n cm0)] else [])
theorem cfL_len (zs ds : List Int) (xs : List cmT) (n : Nat) : (cfL zs ds xs n).length ≤ n := by
  induction n with
  | zero => simp [cfL]
  | succ n ih => rw [cfL, List.length_append]; split <;> simp <;> omega
theorem cf_yes {zs ds : List Int} {xs : List cmT} {j : Nat} {x : cmT} (hx : xs.getD j cm0 = x) (h : keepC zs ds x = true) : cfL zs ds xs (j + 1) = cfL zs ds xs j ++ [plC x] := by
  rw [cfL, hx, if_pos h]
theorem cf_no {zs ds : List Int} {xs : List cmT} {j : Nat} {x : cmT} (hx : xs.getD j cm0 = x) (h : keepC zs ds x = false) : cfL zs ds xs (j + 1) = cfL zs ds xs j := by
  rw [cfL, hx, if_neg (by rw [h]; exact Bool.false_ne_true), List.append_nil]
def LPostC (X : World) (ys : List cmT) (e : Ending) (w' : World) : Prop :=
  ∃ a cap, e = .returned (.slice a ys.length cap) ∧ Below X.heap.size X w' ∧ OC w' X.heap.size w'.heap.size a ys.length (cmX ys)
/-- What CmdsFor tells. -/
def CT (t : Tb) (p : Int) (n : Nat) (xs ys : List cmT) : Prop := (¬ ((Sd t ∧ 0 ≤ p ∧ p < (t.ps.length : Int)) ∧ n ≤ 300) ∧ ys = []) ∨ (((Sd t ∧ 0 ≤ p ∧ p < (t.ps.length : Int)) ∧ n ≤ 300) ∧ ys = cfL (joinV t.cs t.ps.length p) t.ds xs n)
theorem CT.len {t : Tb} {p : Int} {n : Nat} {xs ys : List cmT} (h : CT t p n xs ys) : ys.length ≤ 300 := by
  rcases h with ⟨_, rfl⟩ | ⟨h, rfl⟩
  · simp
  · exact Nat.le_trans (cfL_len _ _ _ _) h.2
theorem ct_ex (t : Tb) (p : Int) (n : Nat) (xs : List cmT) : ∃ ys, Hid (CT t p n xs ys) ∧ ys.length ≤ 300 := by
  by_cases h : (Sd t ∧ 0 ≤ p ∧ p < (t.ps.length : Int)) ∧ n ≤ 300
  · have hj : CT t p n xs (cfL (joinV t.cs t.ps.length p) t.ds xs n) := .inr ⟨h, rfl⟩
    exact ⟨_, hj, hj.len⟩
  · exact ⟨[], .inl ⟨h, rfl⟩, by simp⟩
theorem join_me {t : Tb} {p : Int} (h : Sd t ∧ 0 ≤ p ∧ p < (t.ps.length : Int)) : p ∈ joinV t.cs t.ps.length p ∧ ∀ x ∈ joinV t.cs t.ps.length p, 0 ≤ x := by
  have h19 := h.1 19 (by omega)
  simp only [R] at h19
  have hw : Wi t.cs t.ps.length := fun i hi => (h19 i hi).2
  refine ⟨(join_mem h.2 hw p).2 .base, fun x hx => ?_⟩
  unfold joinV at hx
  exact ((flt_mem _ _ _).1 hx).1.1
set_option maxHeartbeats 2000000 in
theorem cm_plain (x1 x2 x3 : Int) (w : World) : Calls Tryz.prog 67 #[.agg #[.int .i64 x1, .int .i64 x2, .int .u32 x3]] w fun e w' => e = .returned (cmV (plC (x1, x2, x3))) ∧ Below w.heap.size w w' := by
  by_cases h : x1 = 1
  · have hb : (x1 != 1) = false := by simp [h]
    have hp : plC (x1, x2, x3) = (x1, x2, x3) := by unfold plC; rw [if_pos h]
    rw [hp]
    clear h hp
    go_enter Tryz.func67, Tryz.ntmps67
    go_wp2
    exact bodyPost_ret (v := .agg #[.int .i64 x1, .int .i64 x2, .int .u32 x3]) (by simp [results, Tryz.results67, go_sem]) rfl ⟨rfl, by first | exact ((Below.refl _ _).alloc (Nat.le_refl _) _).alloc (by simp) _ | trace_state⟩
  · have hb : (x1 != 1) = true := by simpa using h
    have hp : plC (x1, x2, x3) = (x1, x2, 0) := by unfold plC; rw [if_neg h]
    rw [hp]
    clear h hp
    go_enter Tryz.func67, Tryz.ntmps67
    go_wp2
    exact bodyPost_ret (v := .agg #[.int .i64 x1, .int .i64 x2, .int .u32 0]) (by simp [results, Tryz.results67, go_sem]) rfl ⟨rfl, by first | exact ((Below.refl _ _).alloc (Nat.le_refl _) _).alloc (by simp) _ | trace_state⟩
set_option maxRecDepth 40000 in
set_option maxHeartbeats 8000000 in
theorem part_of (t : Tb) (a : Ad) (x1 x2 x3 v : Int) (w : World) (hd : GSeg 1 w a.da a.dn (inX t.ds)) (hl : t.ds.length = a.dn) (hb : a.dn ≤ 1048576) (hv : partV t.ds (x1, x2, x3) = v) :
    Calls Tryz.prog 66 #[tbV t a, .agg #[.int .i64 x1, .int .i64 x2, .int .u32 x3]] w fun e w' => e = .returned (.int .i64 v) ∧ Below w.heap.size w w' := by
  have HBB : Hid (Below w.heap.size w ((w.alloc (.cells (tbA t a) 44)).alloc (.cells #[.int .i64 x1, .int .i64 x2, .int .u32 x3] 66))) := ((Below.refl _ _).alloc (Nat.le_refl _) _).alloc (by simp) _
  have HX : Hid (TBx ((w.alloc (.cells (tbA t a) 44)).alloc (.cells #[.int .i64 x1, .int .i64 x2, .int .u32 x3] 66)) w.heap.size t a) := (TBx.new w t a _ rfl).below ((Below.refl _ _).alloc (Nat.le_refl _) _)
  have k16 : ((w.alloc (.cells (tbA t a) 44)).alloc (.cells #[.int .i64 x1, .int .i64 x2, .int .u32 x3] 66)).cell? ⟨w.heap.size, 16, none⟩ = some (.slice a.da a.dn a.dc) := HX.out.cell 16 rfl
  unfold partV at hv
  simp only at hv
  rw [hl] at hv
  by_cases h1 : x1 = 1
  · have hb1 : (x1 == 1) = true := by simp [h1]
    have hb2 : (x1 == 2) = false := by simp [h1]
    by_cases h2 : 0 ≤ x2
    · have hd2 : decide (0 ≤ x2) = true := decide_eq_true h2
      by_cases h3 : x2 < (a.dn : Int)
      · have hd3 : decide (x2 < (a.dn : Int)) = true := decide_eq_true h3
        rw [if_pos ⟨h1, h2, h3⟩] at hv
        obtain ⟨i, rfl⟩ : ∃ i : Nat, x2 = (i : Int) := ⟨x2.toNat, by omega⟩
        obtain ⟨b, off, hda, hbl, p1⟩ := hd.at i (by omega)
        have c0 : w.cell? ⟨b, off + i, none⟩ = some (.int .i64 v) := by
          have := p1 0 (.int .i64 (t.ds.getD i 0)) (by simp [inX])
          rw [Int.toNat_natCast] at hv
          rw [← hv]
          simpa using this
        replace c0 := (HBB.out.cell (p := ⟨b, off + i, none⟩) hbl).trans c0
        rw [hda] at k16
        have hd3n : decide (i < a.dn) = true := decide_eq_true (by omega)
        clear hd p1 hv h1 hd2 hd3 h2 hda
        go_enter Tryz.func66, Tryz.ntmps66
        go_wp2
        go_ret
        exact ⟨rfl, HBB.out⟩
      · have hd3 : decide (x2 < (a.dn : Int)) = false := decide_eq_false h3
        rw [if_neg (fun e => h3 e.2.2), if_neg (by omega)] at hv
        subst hv
        clear h1
        go_enter Tryz.func66, Tryz.ntmps66
        go_wp2
        go_ret
        exact ⟨rfl, HBB.out⟩
    · have hd2 : decide (0 ≤ x2) = false := decide_eq_false h2
      rw [if_neg (fun e => h2 e.2.1), if_neg (by omega)] at hv
      subst hv
      clear h1
      go_enter Tryz.func66, Tryz.ntmps66
      go_wp2
      go_ret
      exact ⟨rfl, HBB.out⟩
  · have hb1 : (x1 == 1) = false := by simpa using h1
    rw [if_neg (fun e => h1 e.1)] at hv
    by_cases h2 : x1 = 2
    · have hb2 : (x1 == 2) = true := by simp [h2]
      rw [if_pos h2] at hv
      subst hv
      clear h2 h1
      go_enter Tryz.func66, Tryz.ntmps66
      go_wp2
      go_ret
      exact ⟨rfl, HBB.out⟩
    · have hb2 : (x1 == 2) = false := by simpa using h2
      rw [if_neg h2] at hv
      subst hv
      clear h2 h1
      go_enter Tryz.func66, Tryz.ntmps66
      go_wp2
      go_ret
      exact ⟨rfl, HBB.out⟩
end Go.Proofs.YtgmhcngdgfhhaaaGreatDoor
