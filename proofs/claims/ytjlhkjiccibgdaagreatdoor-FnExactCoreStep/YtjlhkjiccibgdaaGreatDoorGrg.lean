
/-
  A register of a guest set, by the specification and by the program: the same guest, in memory of the call's own. Conditions: registers, rows and bytes are at most 1048576 together.
-/
import Derived.Test.YtjlhkjiccibgdaaGreatDoorProg
import Derived.Test.YtjlhkjiccibgdaaGreatDoorGsc
namespace Go.Proofs.YtjlhkjiccibgdaaGreatDoor
open Go.ChangeShapes Go.WideShapes Go.ChangeAt Go.RowKit Go.Deep
set_option linter.unusedVariables false

def setR (rs : List Int) (k : Nat) (x : Int) : List Int := if k = 0 then rs else rs.set k x
theorem setR_len (rs : List Int) (k : Nat) (x : Int) : (setR rs k x).length = rs.length := by unfold setR; split <;> simp
theorem ON.put {k : IntKind} {w : World} {lo hi : Nat} {a : Option Addr} {zs : List Int} {R : Nat} (h : ON k w lo hi a zs R) (i : Nat) (hi' : i < zs.length) (v : Int) :
    ∃ off, a = some ⟨R, off, none⟩ ∧ (∃ u, w.cell? ⟨R, off + i, none⟩ = some u) ∧ w.frozen? ⟨R, off + i, none⟩ = false ∧ Betw R (R + 1) w (w.setCell ⟨R, off + i, none⟩ (.int k v)) ∧ ON k (w.setCell ⟨R, off + i, none⟩ (.int k v)) lo hi a (zs.set i v) R := by
  obtain ⟨off, e, h1, h2, hlt, hc, hf⟩ := h (by omega)
  refine ⟨off, e, ⟨_, hc i hi'⟩, hf _, (Betw.refl _ _ _).setCell (p := ⟨R, off + i, none⟩) (Nat.le_refl _) (Nat.lt_succ_self _) _, fun _ => ⟨off, e, h1, h2, by simpa using hlt, fun j hj => ?_, fun j => by rw [World.frozen?_setCell]; exact hf j⟩⟩
  rw [List.length_set] at hj
  by_cases c : i = j
  · subst c
    rw [World.cell?_setCell_same _ _ _ (hc i hi')]
    simp [hi', List.getD]
  · rw [World.cell?_setCell_other _ _ _ _ (by intro c'; injection c' with c1 c2 c3; omega), hc j hj]
    simp [c, List.getD]
theorem Sep.set {w : World} {lo hi : Nat} {ra ma : Option Addr} {rs : List Int} {n : Nat} {D : Nat → List Int} (h : Sep w lo hi ra ma rs n D) (h0 : 0 < rs.length) :
    ∃ R, ON .u32 w lo hi ra rs R ∧ ∀ w' rs', Betw R (R + 1) w w' → ON .u32 w' lo hi ra rs' R → Sep w' lo hi ra ma rs' n D := by
  obtain ⟨l2, h2, g1, g2, hm, R, hr, g3⟩ := h
  exact ⟨R, hr, fun w' rs' hb hon => ⟨l2, h2, g1, g2, hm.betw hb (by have := g3 h0; omega), R, hon, fun _ => g3 h0⟩⟩
theorem OGst.set {w : World} {lo m hi : Nat} {ra ma : Option Addr} {rs : List Int} {n : Nat} {D : Nat → List Int} (h : OGst w lo m hi ra ma rs n D) (h0 : 0 < rs.length) :
    ∃ R, ON .u32 w lo m ra rs R ∧ ∀ w' rs', Betw R (R + 1) w w' → ON .u32 w' lo m ra rs' R → OGst w' lo m hi ra ma rs' n D := by
  obtain ⟨⟨R, hr⟩, hm⟩ := h
  exact ⟨R, hr, fun w' rs' hb hon => ⟨⟨R, hon⟩, hm.betw hb (by have := hr.range h0; omega)⟩⟩
theorem is_reg (x : Int) (w : World) : Calls Tryz.prog 100 #[.int .i64 x] w fun e w' => e = .returned (.bool (inr x 0 15)) ∧ w' = w := by
  by_cases h1 : 0 ≤ x
  · by_cases h2 : x ≤ 15
    · rw [inr_yes ⟨h1, h2⟩]
      go_enter Tryz.func100, Tryz.ntmps100
      go_wp2
      go_ret
      exact ⟨rfl, rfl⟩
    · rw [inr_no (fun g => h2 g.2)]
      go_enter Tryz.func100, Tryz.ntmps100
      go_wp2
      go_ret
      exact ⟨rfl, rfl⟩
  · rw [inr_no (fun g => h1 g.1)]
    go_enter Tryz.func100, Tryz.ntmps100
    go_wp2
    go_ret
    exact ⟨rfl, rfl⟩
set_option maxHeartbeats 1000000 in
theorem spec_set (ra ma : Option Addr) (rl rc n mc k lo hi R : Nat) (pc x : Int) (rs : List Int) (w : World) (ho : ON .u32 w lo hi ra rs R) (hl : rs.length = rl) (hr : rl ≤ 1048576) (hk : k < rl) :
    Calls Tryz.prog 42 #[gst ra rl rc pc ma n mc, .int .i64 (k : Int), .int .u32 x] w fun e w' => e = .returned (.tuple #[]) ∧ Betw R (R + 1) w w' ∧ ON .u32 w' lo hi ra (setR rs k x) R := by
  have hbw : Below w.heap.size w (w.alloc (.cells #[.slice ra rl rc, .int .u32 pc, .slice ma n mc] 30)) := (Below.refl _ w).alloc (Nat.le_refl _) _
  have c0 := (Bk.new w #[.slice ra rl rc, .int .u32 pc, .slice ma n mc] 30 w.heap.size rfl).cell 0 _ rfl
  by_cases hk0 : k = 0
  · subst hk0
    have HX : Hid (Betw R (R + 1) w _ ∧ ON .u32 _ lo hi ra (setR rs 0 x) R) := ⟨Below.betw hbw, by rw [setR, if_pos rfl]; exact ho.below hbw⟩
    clear ho hbw hl
    go_enter Tryz.func42, Tryz.ntmps42
    go_wp2
    go_end0
    exact ⟨rfl, HX.out.1, HX.out.2⟩
  · obtain ⟨off, rfl, ⟨u, hu⟩, hf, hbt, hon⟩ := (ho.below hbw).put k (by omega) x
    have HX : Hid (Betw R (R + 1) w _ ∧ ON .u32 _ lo hi (some ⟨R, off, none⟩) (setR rs k x) R) := ⟨(Below.betw hbw).trans hbt, by rw [setR, if_neg hk0]; exact hon⟩
    have hk0' : ((k : Int) == 0) = false := beq_eq_false_iff_ne.2 (by omega)
    have hkp : (0 : Int) < (k : Int) := by omega
    clear ho hbw hl hbt hon
    go_enter Tryz.func42, Tryz.ntmps42
    go_wp2
    go_end0
    exact ⟨rfl, HX.out.1, HX.out.2⟩
set_option maxHeartbeats 1000000 in
theorem impl_set (ra ma : Option Addr) (rl rc n mc k lo hi R : Nat) (pc x : Int) (rs : List Int) (w : World) (ho : ON .u32 w lo hi ra rs R) (hl : rs.length = rl) (hr : rl ≤ 1048576) (hk : k < rl) :
    Calls Tryz.prog 78 #[gst ra rl rc pc ma n mc, .int .i64 (k : Int), .int .u32 x] w fun e w' => e = .returned (.tuple #[]) ∧ Betw R (R + 1) w w' ∧ ON .u32 w' lo hi ra (setR rs k x) R := by
  have hbw : Below w.heap.size w (w.alloc (.cells #[.slice ra rl rc, .int .u32 pc, .slice ma n mc] 30)) := (Below.refl _ w).alloc (Nat.le_refl _) _
  have c0 := (Bk.new w #[.slice ra rl rc, .int .u32 pc, .slice ma n mc] 30 w.heap.size rfl).cell 0 _ rfl
  by_cases hk0 : k = 0
  · subst hk0
    have HX : Hid (Betw R (R + 1) w _ ∧ ON .u32 _ lo hi ra (setR rs 0 x) R) := ⟨Below.betw hbw, by rw [setR, if_pos rfl]; exact ho.below hbw⟩
    clear ho hbw hl
    go_enter Tryz.func78, Tryz.ntmps78
    go_wp2
    go_end0
    exact ⟨rfl, HX.out.1, HX.out.2⟩
  · obtain ⟨off, rfl, ⟨u, hu⟩, hf, hbt, hon⟩ := (ho.below hbw).put k (by omega) x
    have HX : Hid (Betw R (R + 1) w _ ∧ ON .u32 _ lo hi (some ⟨R, off, none⟩) (setR rs k x) R) := ⟨(Below.betw hbw).trans hbt, by rw [setR, if_neg hk0]; exact hon⟩
    have hk0' : ((k : Int) == 0) = false := beq_eq_false_iff_ne.2 (by omega)
    have hkp : (0 : Int) < (k : Int) := by omega
    clear ho hbw hl hbt hon
    go_enter Tryz.func78, Tryz.ntmps78
    go_wp2
    go_end0
    exact ⟨rfl, HX.out.1, HX.out.2⟩
def noD : Nat → List Int := fun _ => []
theorem btot_no (n : Nat) : btot noD n = 0 := by
  induction n with
  | zero => rfl
  | succ n ih => simp only [btot, ih, noD, List.length_nil]
theorem og_no (w : World) (lo m hi : Nat) : OGst w lo m hi none none [] 0 noD :=
  ⟨⟨0, ON.nil _ _ _ _ _ _⟩, 0, 0, fun _ => none, fun _ => 0, fun _ => 0, fun h => absurd h (by omega), ⟨fun i hi => absurd hi (by omega), fun i hi => absurd hi (by omega), fun i hi => absurd hi (by omega), fun i hi => absurd hi (by omega), fun i j hi => absurd hi (by omega)⟩⟩
/-- What a call that answers with a guest tells: the specification's, the program's own. -/
def GAns (X : World) (rs : List Int) (rl : Nat) (pc : Int) (n : Nat) (D : Nat → List Int) (e : Ending) (w' : World) : Prop :=
  ∃ ra' ma' rc' mc', e = .returned (gst ra' rl rc' pc ma' n mc') ∧ Below X.heap.size X w' ∧ GSeg w' ra' ma' rs n D
def OAns (X : World) (rs : List Int) (rl : Nat) (pc : Int) (n : Nat) (D : Nat → List Int) (e : Ending) (w' : World) : Prop :=
  ∃ ra' ma' rc' mc' m, e = .returned (gst ra' rl rc' pc ma' n mc') ∧ Below X.heap.size X w' ∧ OGst w' X.heap.size m w'.heap.size ra' ma' rs n D ∧ X.heap.size ≤ m ∧ m ≤ w'.heap.size
end Go.Proofs.YtjlhkjiccibgdaaGreatDoor
