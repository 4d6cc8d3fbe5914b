/-
  The program's 'run': a whole step on the step's own guest, or its fault as a panic with nothing written but the op. Conditions: the guest is right for its windows, its registers are words, its memory bytes; the table of forms lies where the program laid it; the windows lie ahead of the step.
  The program's CoreStep: the zero step with its fault where the guest is not right, else what the step on a copy says, in memory of its own. Conditions: registers, rows and bytes are at most 1048576 together; the registers are words, the memory bytes; the table of forms lies where the program laid it.
-/
import Derived.Test.YtjlhkjiccibgdaaGreatDoorCim
import Derived.Test.YtjlhkjiccibgdaaGreatDoorCsq
import Derived.Test.YtjlhkjiccibgdaaGreatDoorCrn
import Derived.Test.YtjlhkjiccibgdaaGreatDoorCrd
import Derived.Test.YtjlhkjiccibgdaaGreatDoorCsc
namespace Go.Proofs.YtjlhkjiccibgdaaGreatDoor
open Go.ChangeShapes Go.WideShapes Go.ChangeAt Go.RowKit Go.Deep
set_option linter.unusedVariables false

theorem ASeg.off {w w' : World} {a : Option Addr} {xs : List Wn} {lo hi : Nat} (h : ASeg w a xs) (hb : Betw lo hi w w') (hsl : ∀ b off, a = some ⟨b, off, none⟩ → b < lo) : ASeg w' a xs := fun h0 => by
  obtain ⟨b, off, e, hlt, hc⟩ := h h0
  have := hsl b off e
  exact ⟨b, off, e, Nat.lt_of_lt_of_le hlt hb.size, fun i hi => (hc i hi).of (fun j => hb.cell (p := ⟨b, j, none⟩) hlt (.inl this))⟩
/-- What a run leaves: the step's row and its guest as told. -/
def RunQ (w : World) (Sb lo mm hi rc n mc : Nat) (ra ma : Option Addr) (rs' : List Int) (pc' : Int) (D' : Nat → List Int) (op to : Int) (wr ca : Bool) (w' : World) : Prop :=
  Betw Sb hi w w' ∧ Bk w' Sb (srow ra 16 rc pc' ma n mc 0 op to wr ca) ∧ OGst w' lo mm hi ra ma rs' n D'
theorem run_step {xs : List Wn} {rs rs' : List Int} {n : Nat} {D D' : Nat → List Int} {pc pc' cy fa op to : Int} {wr ca : Bool} (h : StepP xs rs pc n D cy rs' pc' D' fa op to wr ca)
    (Sb lo mm hi rc mc cap : Nat) (ra ma a : Option Addr) (w : World) (hT : Is.Tab w) (hg : GOk xs rs n D) (hf : Fit xs) (hcp : n ≤ cap) (hb8 : ∀ i, i < n → ∀ z ∈ D i, (Lit.int .u8 z).wf = true) (hs : ASeg w a xs) (hsl : 0 < n → ∀ b off, a = some ⟨b, off, none⟩ → b < Sb)
    (hB : Bk w Sb (srow ra 16 rc pc ma n mc 0 (-1) (-1) false false)) (hS : OGst w lo mm hi ra ma rs n D) (hw : ∀ z ∈ rs, (Lit.int .u32 z).wf = true) (hp0 : 0 ≤ pc) (hp1 : pc ≤ 4294967295) (hSb : Sb < lo) (hlm : lo ≤ mm) (hmh : mm ≤ hi) (hhi : hi ≤ w.heap.size) :
    Calls Tryz.prog 29 #[.pointer (some ⟨Sb, 0, none⟩), .slice a n cap, .int .i64 cy] w fun e w' =>
      (fa = 0 ∧ e = .returned (.tuple #[]) ∧ RunQ w Sb lo mm hi rc n mc ra ma rs' pc' D' op to wr ca w') ∨
      (¬ fa = 0 ∧ e = .panicked [fltP fa] ∧ RunQ w Sb lo mm hi rc n mc ra ma rs' pc' D' op to wr ca w') := by
  have hns : ∀ r : Int, ¬ r = 0 → (r == 0) = false := fun r h => beq_eq_false_iff_ne.2 h
  have hbt : ∀ w', Below w.heap.size w w' → Betw Sb hi w w' ∧ Bk w' Sb (srow ra 16 rc pc ma n mc 0 (-1) (-1) false false) ∧ OGst w' lo mm hi ra ma rs n D := fun w' hb => ⟨Below.betw hb, hB.below hb, OGst.below hS hb⟩
  have hld : ∀ v, RdP xs n D pc 4 4 v 0 → ∀ X, Below w.heap.size w X → Calls Tryz.prog 54 #[gst ra 16 rc pc ma n mc, .slice a n cap, .int .u32 pc, .int .i64 4, .int .i64 4] X fun e w' => e = .returned (.int .u32 v) ∧ Below X.heap.size X w' :=
    fun v hd X hX => load_i hg hd hb8 a ra ma cap 16 rc mc pc X (hs.below hX) hf hcp (GSeg.below (OGst.seg hS) hX).2 ⟨hp0, by omega⟩
  cases h with
  | ft v r hd hr =>
    exact (run_ft Sb rc n mc cap ra ma a pc cy w fa hB (fun X hX => load_ir hg hd (hns _ hr) a ra ma cap rc mc pc X (hs.below hX) hf hcp ⟨hp0, by omega⟩)).mono fun e w' h => .inr ⟨hr, h.1, hbt w' h.2⟩
  | no v hd hq =>
    obtain ⟨v0, v1⟩ := rd_rng hd hb8
    exact (run_no Sb rc n mc cap ra ma a pc cy v 0 0 0 0 0 w hB (hld v hd) (fun X hX => Is.impl_dec v false X (Is.Tab.below hT hX) v0 v1 hq)).mono fun e w' h => .inr ⟨by decide, h.1, hbt w' h.2⟩
  | ca v hd hq h25 =>
    obtain ⟨v0, v1⟩ := rd_rng hd hb8
    exact (run_ca Sb rc n mc cap ra ma a pc cy v _ _ _ _ _ w lo mm hi rs D hS hSb hlm hmh h25 hB (hld v hd) (fun X hX => Is.impl_dec v true X (Is.Tab.below hT hX) v0 v1 hq)).mono fun e w' h => .inl ⟨rfl, h.1, h.2⟩
  | act v m _ A B C _ _ _ _ _ _ hd hq ho hA hBB hC hm h =>
    obtain ⟨v0, v1⟩ := rd_rng hd hb8
    have hx := sx_rng (v % 16384) (by omega) (by omega)
    rw [hm] at hx
    have hdc : ∀ X, Below w.heap.size w X → Calls Tryz.prog 53 #[.int .u32 v] X fun e w' => e = .returned (.tuple #[Is.ins op A B C m, .bool true]) ∧ Below X.heap.size X w' := fun X hX => by
      have := Is.impl_dec v true X (Is.Tab.below hT hX) v0 v1 hq
      rw [ho, hA, hBB, hC, hm] at this
      exact this
    have hop : ¬ 25 ≤ op := by cases h <;> omega
    refine run_do Sb rc n mc cap ra ma a pc cy v op A B C m w hop fa (RunQ w Sb lo mm hi rc n mc ra ma rs' pc' D' op to wr false) (RunQ w Sb lo mm hi rc n mc ra ma rs' pc' D' op to wr false) (fun X V hV hX hBX => ?_) hB (hld v hd) hdc
    have hSV := OGst.below hS hV
    have hSX : OGst X lo mm hi ra ma rs n D := hSV.betw hX (.inr (by omega)) hlm hmh
    have hsX : ASeg X a xs := ASeg.off (hs.below hV) hX (hsl (rd_pos hd))
    have hwX : Betw Sb hi w X := (Below.betw hV).trans (hX.wide (Nat.le_refl _) (by omega))
    have hhX : hi ≤ X.heap.size := Nat.le_trans hhi hwX.size
    refine (impl_do h Sb lo mm hi rc mc cap ra ma a X hg hf hcp hb8 hsX hBX hSX hw (by omega) (by omega) (by omega) hx.1 hx.2 hp0 hp1 hSb hlm hmh hhX).mono fun e w' hh => ?_
    rcases hh with ⟨h1, h2, h3, h4, h5⟩ | ⟨h1, h2, h3, e1, e2, e3, e4, e5⟩
    · exact .inl ⟨h1, h2, hwX.trans h3, h4, h5⟩
    · refine .inr ⟨h1, h2, hwX.trans (Below.betw h3), ?_, ?_⟩
      · rw [e2, e4, e5]; exact hBX.below h3
      · rw [e1, e3]; exact OGst.below hSX h3
end Go.Proofs.YtjlhkjiccibgdaaGreatDoor
namespace Go.Proofs.YtjlhkjiccibgdaaGreatDoor
open Go.ChangeShapes Go.WideShapes Go.ChangeAt Go.RowKit Go.Deep
set_option linter.unusedVariables false

set_option maxHeartbeats 1000000 in
theorem core1 (Sb b3 b5 n cap : Nat) (a : Option Addr) (cy fa : Int) (w : World) (Q : World → Prop) (c3 : w.cell? ⟨b3, 0, none⟩ = some (.slice a n cap)) (c5 : w.cell? ⟨b5, 0, none⟩ = some (.int .i64 cy))
    (hr : Calls Tryz.prog 29 #[.pointer (some ⟨Sb, 0, none⟩), .slice a n cap, .int .i64 cy] w fun e w' => (fa = 0 ∧ e = .returned (.tuple #[]) ∧ Q w') ∨ (¬ fa = 0 ∧ e = .panicked [fltP fa] ∧ Q w')) :
    Calls Tryz.prog 28 #[.pointer (some ⟨Sb, 0, none⟩), .pointer (some ⟨b3, 0, none⟩), .pointer (some ⟨b5, 0, none⟩)] w fun e w' => (fa = 0 ∧ e = .returned (.tuple #[]) ∧ Q w') ∨ (¬ fa = 0 ∧ e = .panicked [fltP fa] ∧ Q w') := by
  have HR : Hid (Calls Tryz.prog 29 #[.pointer (some ⟨Sb, 0, none⟩), .slice a n cap, .int .i64 cy] w fun e w' => (fa = 0 ∧ e = .returned (.tuple #[]) ∧ Q w') ∨ (¬ fa = 0 ∧ e = .panicked [fltP fa] ∧ Q w')) := hr
  clear hr
  go_enter Tryz.func28, Tryz.ntmps28
  go_wp2_with fail
  refine Calls.mono HR.out ?_
  rintro e9 w9 (⟨h0, rfl, hq⟩ | ⟨h0, rfl, hq⟩)
  · have HQ : Hid (Q w9) := hq
    have H0 : Hid (fa = 0) := h0
    clear hq h0
    go_wp2
    go_end0
    exact .inl ⟨H0.out, rfl, HQ.out⟩
  · have HQ : Hid (Q w9) := hq
    have H0 : Hid (¬ fa = 0) := h0
    clear hq h0
    go_wp2
    exact ⟨rfl, .inr ⟨H0.out, rfl, HQ.out⟩⟩
theorem caught_core (cap : Array Value) (fa : Int) (w : World) (Q : World → Prop) (h : Calls Tryz.prog 28 cap (w.alloc (.cells #[.int .i64 0] 3)) fun e w' => (fa = 0 ∧ e = .returned (.tuple #[]) ∧ Bk w' w.heap.size #[.int .i64 0] ∧ Q w') ∨ (¬ fa = 0 ∧ e = .panicked [fltP fa] ∧ Bk w' w.heap.size #[.int .i64 0] ∧ Q w')) :
    Calls Tryz.prog 27 #[.func (.func 28) #[] cap] w fun e w' => e = .returned (.int .i64 fa) ∧ ∃ w1, Q w1 ∧ Betw w.heap.size (w.heap.size + 1) w1 w' ∧ w1.heap.size = w'.heap.size := by
  by_cases h0 : fa = 0
  · subst h0
    refine caught_core_ok cap w Q (h.mono ?_)
    rintro e w' (⟨_, h2, h3⟩ | ⟨h1, _⟩)
    · exact ⟨h2, h3⟩
    · exact absurd rfl h1
  · refine caught_core_bad cap fa w Q (h.mono ?_)
    rintro e w' (⟨h1, _⟩ | ⟨_, h2, h3⟩)
    · exact absurd h1 h0
    · exact ⟨h2, h3⟩
abbrev cw0 (w : World) (a ra ma : Option Addr) (cap wn rl rc n mc : Nat) (pc cy : Int) : World :=
  ((((w.alloc (.cells #[.slice a wn cap] 34)).alloc (.cells #[.slice ra rl rc, .int .u32 pc, .slice ma n mc] 30)).alloc (.cells #[.int .i64 cy] 3)).alloc (.cells (srow none 0 0 0 none 0 0 0 0 0 false false) 32)).alloc (.cells (srow none 0 0 0 none 0 0 0 (-1) (-1) false false) 32)
theorem cw0_below (w : World) (a ra ma : Option Addr) (cap wn rl rc n mc : Nat) (pc cy : Int) : Below w.heap.size w (cw0 w a ra ma cap wn rl rc n mc pc cy) :=
  (((((Below.refl _ w).alloc (Nat.le_refl _) _).alloc (by simp) _).alloc (by simp; omega) _).alloc (by simp; omega) _).alloc (by simp; omega) _
/-- The five variables of CoreStep, as they stand. -/
def CV (W : World) (B : Nat) (a ra ma : Option Addr) (cap wn rl rc n mc : Nat) (pc cy : Int) (r6 r7 : Array Value) : Prop :=
  Bk W B #[.slice a wn cap] ∧ Bk W (B + 1) #[.slice ra rl rc, .int .u32 pc, .slice ma n mc] ∧ Bk W (B + 2) #[.int .i64 cy] ∧ Bk W (B + 3) r6 ∧ Bk W (B + 4) r7
theorem CV.below {W W' : World} {B : Nat} {a ra ma : Option Addr} {cap wn rl rc n mc : Nat} {pc cy : Int} {r6 r7 : Array Value} (h : CV W B a ra ma cap wn rl rc n mc pc cy r6 r7) (hb : Below W.heap.size W W') : CV W' B a ra ma cap wn rl rc n mc pc cy r6 r7 :=
  ⟨h.1.below hb, h.2.1.below hb, h.2.2.1.below hb, h.2.2.2.1.below hb, h.2.2.2.2.below hb⟩
theorem cv_new (w : World) (a ra ma : Option Addr) (cap wn rl rc n mc : Nat) (pc cy : Int) : CV (cw0 w a ra ma cap wn rl rc n mc pc cy) w.heap.size a ra ma cap wn rl rc n mc pc cy (srow none 0 0 0 none 0 0 0 0 0 false false) (srow none 0 0 0 none 0 0 0 (-1) (-1) false false) :=
  ⟨((((Bk.new w _ _ w.heap.size rfl).alloc _).alloc _).alloc _).alloc _, (((Bk.new _ _ _ _ (by simp)).alloc _).alloc _).alloc _, ((Bk.new _ _ _ _ (by simp)).alloc _).alloc _, (Bk.new _ _ _ _ (by simp)).alloc _, Bk.new _ _ _ _ (by simp)⟩
set_option maxHeartbeats 4000000 in
theorem impl_core_no (a ra ma : Option Addr) (cap wn rl rc n mc : Nat) (pc cy : Int) (xs : List Wn) (rs : List Int) (D : Nat → List Int) (w : World) (hs : ASeg w a xs) (hf : Fit xs) (hl : xs.length = wn) (hn : wn ≤ 9223372036854775807) (hc : wn ≤ cap) (hg : GSeg w ra ma rs n D) (hrl : rs.length = rl) (hno : ¬ GOk xs rs n D) :
    Calls Tryz.prog 9 #[.slice a wn cap, gst ra rl rc pc ma n mc, .int .i64 cy] w fun e w' => e = .returned (stp none 0 0 0 none 0 0 9 (-1) (-1) false false) ∧ Below w.heap.size w w' := by
  have hbw := cw0_below w a ra ma cap wn rl rc n mc pc cy
  have HGK : Hid (Calls Tryz.prog 25 #[.slice a wn cap, gst ra rl rc pc ma n mc] (cw0 w a ra ma cap wn rl rc n mc pc cy) fun e w' => e = .returned (.bool false) ∧ Below (cw0 w a ra ma cap wn rl rc n mc pc cy).heap.size (cw0 w a ra ma cap wn rl rc n mc pc cy) w') := impl_gok a ra ma cap wn rl rc n mc pc xs rs D false _ (hs.below hbw) hf hl hn hc (hg.below hbw) hrl ⟨fun h => (by cases h), fun h => absurd h hno⟩
  have HB : Hid (Below w.heap.size w (cw0 w a ra ma cap wn rl rc n mc pc cy)) := hbw
  have HV : Hid (CV (cw0 w a ra ma cap wn rl rc n mc pc cy) w.heap.size a ra ma cap wn rl rc n mc pc cy (srow none 0 0 0 none 0 0 0 0 0 false false) (srow none 0 0 0 none 0 0 0 (-1) (-1) false false)) := cv_new w a ra ma cap wn rl rc n mc pc cy
  clear hs hf hl hg hrl hno hbw
  go_enter Tryz.func9, Tryz.ntmps9
  go_wp2_with fail
  refine Calls.mono HGK.out ?_
  rintro u w1 ⟨rfl, hb1⟩
  have HBW : Hid (Below w.heap.size w w1) := HB.out.trans (hb1.mono HB.out.size)
  have HV1 : Hid (CV w1 w.heap.size a ra ma cap wn rl rc n mc pc cy (srow none 0 0 0 none 0 0 0 0 0 false false) (srow none 0 0 0 none 0 0 0 (-1) (-1) false false)) := HV.out.below hb1
  clear hb1 HB HV HGK
  have K1 : Hid (Bk w1 (w.heap.size + 3) (srow none 0 0 0 none 0 0 0 0 0 false false)) := HV1.out.2.2.2.1
  have K2 : Hid (Bk (w1.setCell ⟨w.heap.size + 4, 3, none⟩ (.int .i64 9)) (w.heap.size + 3) (srow none 0 0 0 none 0 0 0 0 0 false false)) := K1.out.other _ 3 _ (by omega)
  have K3 : Hid (Bk (w1.setCell ⟨w.heap.size + 4, 3, none⟩ (.int .i64 9)) (w.heap.size + 4) (srow none 0 0 0 none 0 0 9 (-1) (-1) false false)) := HV1.out.2.2.2.2.set 3 _ (by simp) (srow_fa rfl)
  have HB2 : Hid (Below w.heap.size w (w1.setCell ⟨w.heap.size + 4, 3, none⟩ (.int .i64 9))) := Below.setCell HBW.out (p := ⟨w.heap.size + 4, 3, none⟩) (by simp) _
  have f3 := HV1.out.2.2.2.2.cell 3 _ rfl
  have ff := HV1.out.2.2.2.2.free
  have r0 := K2.out.cell 0 _ rfl
  have r1 := K2.out.cell 1 _ rfl
  have r2 := K2.out.cell 2 _ rfl
  have r3 := K2.out.cell 3 _ rfl
  have r4 := K2.out.cell 4 _ rfl
  have r5 := K2.out.cell 5 _ rfl
  have r6 := K2.out.cell 6 _ rfl
  have r7 := K2.out.cell 7 _ rfl
  have rf := K2.out.free
  have t0 := K3.out.cell 0 _ rfl
  have t1 := K3.out.cell 1 _ rfl
  have t2 := K3.out.cell 2 _ rfl
  have t3 := K3.out.cell 3 _ rfl
  have t4 := K3.out.cell 4 _ rfl
  have t5 := K3.out.cell 5 _ rfl
  have t6 := K3.out.cell 6 _ rfl
  have t7 := K3.out.cell 7 _ rfl
  go_wp2
  have k8 := bk8 K2.out (.slice none 0 0) (.int .u32 0) (.slice none 0 0) (.int .i64 9) (.int .i64 (-1)) (.int .i64 (-1)) (.bool false) (.bool false)
  have h8 := b8 HB2.out (R := w.heap.size + 3) (by omega) (.slice none 0 0) (.int .u32 0) (.slice none 0 0) (.int .i64 9) (.int .i64 (-1)) (.int .i64 (-1)) (.bool false) (.bool false)
  clear f3 ff r0 r1 r2 r3 r4 r5 r6 r7 rf t0 t1 t2 t3 t4 t5 t6 t7 K1 K2 K3 HBW HV1 HB2
  revert h8 k8
  generalize (((((((((w1.setCell ⟨w.heap.size + 4, 3, none⟩ (.int .i64 9)).setCell ⟨w.heap.size + 3, 0, none⟩ (.slice none 0 0)).setCell ⟨w.heap.size + 3, 1, none⟩ (.int .u32 0)).setCell ⟨w.heap.size + 3, 2, none⟩ (.slice none 0 0)).setCell ⟨w.heap.size + 3, 3, none⟩ (.int .i64 9)).setCell ⟨w.heap.size + 3, 4, none⟩ (.int .i64 (-1))).setCell ⟨w.heap.size + 3, 5, none⟩ (.int .i64 (-1))).setCell ⟨w.heap.size + 3, 6, none⟩ (.bool false)).setCell ⟨w.heap.size + 3, 7, none⟩ (.bool false)) = Wf
  intro k8 h8
  have q0 := k8.cell 0 _ rfl
  have q1 := k8.cell 1 _ rfl
  have q2 := k8.cell 2 _ rfl
  have q3 := k8.cell 3 _ rfl
  have q4 := k8.cell 4 _ rfl
  have q5 := k8.cell 5 _ rfl
  have q6 := k8.cell 6 _ rfl
  have q7 := k8.cell 7 _ rfl
  exact bodyPost_ret (v := stp none 0 0 0 none 0 0 9 (-1) (-1) false false) (by simp [results, Tryz.results9, go_sem, q0, q1, q2, q3, q4, q5, q6, q7]) rfl ⟨rfl, h8⟩
/-- What CoreStep answers where the guest is right. -/
def CoreAns (X : World) (n : Nat) (rs' : List Int) (pc' : Int) (D' : Nat → List Int) (fa op to : Int) (wr ca : Bool) (e : Ending) (w' : World) : Prop :=
  ∃ ra' ma' rc' mc' m, e = .returned (stp ra' 16 rc' pc' ma' n mc' fa op to wr ca) ∧ Below X.heap.size X w' ∧ OGst w' X.heap.size m w'.heap.size ra' ma' rs' n D' ∧ X.heap.size ≤ m ∧ m ≤ w'.heap.size
set_option maxHeartbeats 4000000 in
theorem impl_core {xs : List Wn} {rs rs' : List Int} {n : Nat} {D D' : Nat → List Int} {pc pc' cy fa op to : Int} {wr ca : Bool} (h : StepP xs rs pc n D cy rs' pc' D' fa op to wr ca)
    (a ra ma : Option Addr) (cap rc mc : Nat) (w : World) (hT : Is.Tab w) (hs : ASeg w a xs) (hf : Fit xs) (hc : n ≤ cap) (hg : GSeg w ra ma rs n D) (hn1 : n ≤ 1048576) (ht : btot D n ≤ 1048576) (hgo : GOk xs rs n D) (hb8 : ∀ i, i < n → ∀ z ∈ D i, (Lit.int .u8 z).wf = true) (hw : ∀ z ∈ rs, (Lit.int .u32 z).wf = true) (hp0 : 0 ≤ pc) (hp1 : pc ≤ 4294967295) :
    Calls Tryz.prog 9 #[.slice a n cap, gst ra 16 rc pc ma n mc, .int .i64 cy] w (CoreAns w n rs' pc' D' fa op to wr ca) := by
  have hl : xs.length = n := hgo.2.2.2.1.symm
  have h4 := hgo.1.1
  have hmf : ∀ (fn : Fn) (first cap : Array Value) (w : World), (Instr.makeFunc fn first cap).run Tryz.prog w = .ok (.func fn first cap) w := fun _ _ _ _ => rfl
  have hbw := cw0_below w a ra ma cap n 16 rc n mc pc cy
  have HGK : Hid (Calls Tryz.prog 25 #[.slice a n cap, gst ra 16 rc pc ma n mc] (cw0 w a ra ma cap n 16 rc n mc pc cy) fun e w' => e = .returned (.bool true) ∧ Below (cw0 w a ra ma cap n 16 rc n mc pc cy).heap.size (cw0 w a ra ma cap n 16 rc n mc pc cy) w') := impl_gok a ra ma cap n 16 rc n mc pc xs rs D true _ (hs.below hbw) hf hl (by omega) hc (hg.below hbw) hgo.2.1 ⟨fun _ => hgo, fun _ => rfl⟩
  have HCP : Hid (∀ X, Below w.heap.size w X → Calls Tryz.prog 26 #[gst ra 16 rc pc ma n mc] X (CopyP X pc 16 n rs D)) := fun X hX => impl_copied pc ra ma 16 rc n mc rs D X (hg.below hX) hgo.2.1 (by omega) hn1 ht
  have HRS : Hid (∀ (X : World) Sb lo mm hi rc' mc' ra' ma', Below w.heap.size w X → w.heap.size ≤ Sb → Sb < lo → lo ≤ mm → mm ≤ hi → hi ≤ X.heap.size → Bk X Sb (srow ra' 16 rc' pc ma' n mc' 0 (-1) (-1) false false) → OGst X lo mm hi ra' ma' rs n D →
      Calls Tryz.prog 29 #[.pointer (some ⟨Sb, 0, none⟩), .slice a n cap, .int .i64 cy] X fun e w' =>
      (fa = 0 ∧ e = .returned (.tuple #[]) ∧ RunQ X Sb lo mm hi rc' n mc' ra' ma' rs' pc' D' op to wr ca w') ∨
      (¬ fa = 0 ∧ e = .panicked [fltP fa] ∧ RunQ X Sb lo mm hi rc' n mc' ra' ma' rs' pc' D' op to wr ca w')) := fun X Sb lo mm hi rc' mc' ra' ma' hX hSb hlo hlm hmh hhi hB hS =>
    run_step h Sb lo mm hi rc' mc' cap ra' ma' a X (Is.Tab.below hT hX) hgo hf hc hb8 (hs.below hX) (fun h0 b off e => by
      obtain ⟨b1, o1, e1, hlt, _⟩ := hs (by omega)
      rw [e] at e1
      injection e1 with e1
      injection e1 with e1 e2 e3
      omega) hB hS hw hp0 hp1 hlo hlm hmh hhi
  have HB : Hid (Below w.heap.size w (cw0 w a ra ma cap n 16 rc n mc pc cy)) := hbw
  have HV : Hid (CV (cw0 w a ra ma cap n 16 rc n mc pc cy) w.heap.size a ra ma cap n 16 rc n mc pc cy (srow none 0 0 0 none 0 0 0 0 0 false false) (srow none 0 0 0 none 0 0 0 (-1) (-1) false false)) := cv_new w a ra ma cap n 16 rc n mc pc cy
  clear hs hf hl hg hgo hbw h hT hb8 hw hp0 hp1 ht h4
  go_enter Tryz.func9, Tryz.ntmps9
  go_wp2_with fail
  refine Calls.mono HGK.out ?_
  rintro u w1 ⟨rfl, hb1⟩
  have HBW : Hid (Below w.heap.size w w1) := HB.out.trans (hb1.mono HB.out.size)
  have HV1 : Hid (CV w1 w.heap.size a ra ma cap n 16 rc n mc pc cy (srow none 0 0 0 none 0 0 0 0 0 false false) (srow none 0 0 0 none 0 0 0 (-1) (-1) false false)) := HV.out.below hb1
  clear hb1 HB HV HGK
  have g0 := HV1.out.2.1.cell 0 _ rfl
  have g1 := HV1.out.2.1.cell 1 _ rfl
  have g2 := HV1.out.2.1.cell 2 _ rfl
  go_wp2_with fail
  refine Calls.mono (HCP.out _ HBW.out) ?_
  rintro u w2 ⟨ra2, ma2, rc2, mc2, m2, rfl, hb2, ho2, hm2, hn2⟩
  have z1 : w.heap.size + 4 < w1.heap.size := HV1.out.2.2.2.2.lt
  have z2 : w1.heap.size ≤ w2.heap.size := hb2.size
  have HB2 : Hid (Below w.heap.size w w2) := HBW.out.trans (hb2.mono HBW.out.size)
  have HV2 : Hid (CV w2 w.heap.size a ra ma cap n 16 rc n mc pc cy (srow none 0 0 0 none 0 0 0 0 0 false false) (srow none 0 0 0 none 0 0 0 (-1) (-1) false false)) := HV1.out.below hb2
  have HO2 : Hid (OGst w2 w1.heap.size m2 w2.heap.size ra2 ma2 rs n D) := ho2
  clear g0 g1 g2 hb2 ho2 HBW HV1 HCP
  have u0 := HV2.out.2.2.2.2.cell 0 _ rfl
  have u1 := HV2.out.2.2.2.2.cell 1 _ rfl
  have u2 := HV2.out.2.2.2.2.cell 2 _ rfl
  have uf := HV2.out.2.2.2.2.free
  go_wp2_with fail
  clear u0 u1 u2 uf
  have hbt3 : Betw (w.heap.size + 4) (w.heap.size + 5) w2 (((w2.setCell ⟨w.heap.size + 1 + 1 + 1 + 1, 0, none⟩ (.slice ra2 16 rc2)).setCell ⟨w.heap.size + 1 + 1 + 1 + 1, 1, none⟩ (.int .u32 pc)).setCell ⟨w.heap.size + 1 + 1 + 1 + 1, 2, none⟩ (.slice ma2 n mc2)) := (((Betw.refl (w.heap.size + 4) (w.heap.size + 5) w2).setCell (p := ⟨w.heap.size + 1 + 1 + 1 + 1, 0, none⟩) (by simp) (by simp) (.slice ra2 16 rc2)).setCell (p := ⟨w.heap.size + 1 + 1 + 1 + 1, 1, none⟩) (by simp) (by simp) (.int .u32 pc)).setCell (p := ⟨w.heap.size + 1 + 1 + 1 + 1, 2, none⟩) (by simp) (by simp) (.slice ma2 n mc2)
  have hk3 : Bk (((w2.setCell ⟨w.heap.size + 1 + 1 + 1 + 1, 0, none⟩ (.slice ra2 16 rc2)).setCell ⟨w.heap.size + 1 + 1 + 1 + 1, 1, none⟩ (.int .u32 pc)).setCell ⟨w.heap.size + 1 + 1 + 1 + 1, 2, none⟩ (.slice ma2 n mc2)) (w.heap.size + 4) (srow ra2 16 rc2 pc ma2 n mc2 0 (-1) (-1) false false) := ((HV2.out.2.2.2.2.set 0 (.slice ra2 16 rc2) (by simp) rfl).set 1 (.int .u32 pc) (by simp) rfl).set 2 (.slice ma2 n mc2) (by simp) rfl
  have hsz3 : (((w2.setCell ⟨w.heap.size + 1 + 1 + 1 + 1, 0, none⟩ (.slice ra2 16 rc2)).setCell ⟨w.heap.size + 1 + 1 + 1 + 1, 1, none⟩ (.int .u32 pc)).setCell ⟨w.heap.size + 1 + 1 + 1 + 1, 2, none⟩ (.slice ma2 n mc2)).heap.size = w2.heap.size := by simp [World.setCell]
  revert hbt3 hk3 hsz3
  generalize (((w2.setCell ⟨w.heap.size + 1 + 1 + 1 + 1, 0, none⟩ (.slice ra2 16 rc2)).setCell ⟨w.heap.size + 1 + 1 + 1 + 1, 1, none⟩ (.int .u32 pc)).setCell ⟨w.heap.size + 1 + 1 + 1 + 1, 2, none⟩ (.slice ma2 n mc2)) = W3
  intro hbt3 hk3 hsz3
  have HB3 : Hid (Below w.heap.size w W3) := HB2.out.trans (hbt3.below (by omega) HB2.out.size)
  have HV3 : Hid (CV W3 w.heap.size a ra ma cap n 16 rc n mc pc cy (srow none 0 0 0 none 0 0 0 0 0 false false) (srow ra2 16 rc2 pc ma2 n mc2 0 (-1) (-1) false false)) := ⟨HV2.out.1.betw hbt3 (.inl (by omega)), HV2.out.2.1.betw hbt3 (.inl (by omega)), HV2.out.2.2.1.betw hbt3 (.inl (by omega)), HV2.out.2.2.2.1.betw hbt3 (.inl (by omega)), hk3⟩
  have HO3 : Hid (OGst W3 w1.heap.size m2 w2.heap.size ra2 ma2 rs n D) := OGst.betw HO2.out hbt3 (.inr (by omega)) hm2 hn2
  clear hbt3 hk3 HB2 HV2 HO2
  have hal : Below W3.heap.size W3 (W3.alloc (.cells #[.int .i64 0] 3)) := (Below.refl _ _).alloc (Nat.le_refl _) _
  have HC : Hid (Calls Tryz.prog 27 #[.func (.func 28) #[] #[.pointer (some ⟨w.heap.size + 4, 0, none⟩), .pointer (some ⟨w.heap.size, 0, none⟩), .pointer (some ⟨w.heap.size + 2, 0, none⟩)]] W3 fun e w' => e = .returned (.int .i64 fa) ∧ ∃ w5, RunQ (W3.alloc (.cells #[.int .i64 0] 3)) (w.heap.size + 4) w1.heap.size m2 w2.heap.size rc2 n mc2 ra2 ma2 rs' pc' D' op to wr ca w5 ∧ Betw W3.heap.size (W3.heap.size + 1) w5 w' ∧ w5.heap.size = w'.heap.size) := by
    refine caught_core _ fa W3 _ ?_
    refine (core1 (w.heap.size + 4) w.heap.size (w.heap.size + 2) n cap a cy fa (W3.alloc (.cells #[.int .i64 0] 3)) (fun w' => Bk w' W3.heap.size #[.int .i64 0] ∧ RunQ (W3.alloc (.cells #[.int .i64 0] 3)) (w.heap.size + 4) w1.heap.size m2 w2.heap.size rc2 n mc2 ra2 ma2 rs' pc' D' op to wr ca w') ((HV3.out.1.below hal).cell 0 _ rfl) ((HV3.out.2.2.1.below hal).cell 0 _ rfl) ?_)
    refine (HRS.out (W3.alloc (.cells #[.int .i64 0] 3)) (w.heap.size + 4) w1.heap.size m2 w2.heap.size rc2 mc2 ra2 ma2 (HB3.out.trans (hal.mono HB3.out.size)) (by omega) z1 hm2 hn2 (by simp; omega) (HV3.out.2.2.2.2.below hal) (OGst.below HO3.out hal)).mono ?_
    rintro e w' (⟨h1, h2, h3⟩ | ⟨h1, h2, h3⟩)
    · exact .inl ⟨h1, h2, (Bk.new W3 _ _ _ rfl).betw h3.1 (.inr (by omega)), h3⟩
    · exact .inr ⟨h1, h2, (Bk.new W3 _ _ _ rfl).betw h3.1 (.inr (by omega)), h3⟩
  clear HRS
  refine Calls.mono HC.out ?_
  rintro u w6 ⟨rfl, w5, hq, hbt6, hs6⟩
  clear HC
  have hz5 : W3.heap.size + 1 ≤ w5.heap.size := by have := hq.1.size; simp at this; omega
  have HBX : Hid (Below w.heap.size w (W3.alloc (.cells #[.int .i64 0] 3))) := HB3.out.trans (hal.mono HB3.out.size)
  have HB5 : Hid (Below w.heap.size w w5) := HBX.out.trans (hq.1.below (by omega) HBX.out.size)
  have HB6 : Hid (Below w.heap.size w w6) := HB5.out.trans (hbt6.below (by omega) HB5.out.size)
  have K7 : Hid (Bk w6 (w.heap.size + 4) (srow ra2 16 rc2 pc' ma2 n mc2 0 op to wr ca)) := hq.2.1.betw hbt6 (.inl (by omega))
  have K6 : Hid (Bk w6 (w.heap.size + 3) (srow none 0 0 0 none 0 0 0 0 0 false false)) := ((HV3.out.2.2.2.1.below hal).betw hq.1 (.inl (by omega))).betw hbt6 (.inl (by omega))
  have HO6 : Hid (OGst w6 w1.heap.size m2 w2.heap.size ra2 ma2 rs' n D') := OGst.betw hq.2.2 hbt6 (.inl (by omega)) hm2 hn2
  have hz6 : w2.heap.size ≤ w6.heap.size := by omega
  clear hq hbt6 HB5 HBX HB3 HV3 HO3 hal
  have J6 : Hid (Bk (w6.setCell ⟨w.heap.size + 4, 3, none⟩ (.int .i64 fa)) (w.heap.size + 3) (srow none 0 0 0 none 0 0 0 0 0 false false)) := K6.out.other _ 3 _ (by omega)
  have J7 : Hid (Bk (w6.setCell ⟨w.heap.size + 4, 3, none⟩ (.int .i64 fa)) (w.heap.size + 4) (srow ra2 16 rc2 pc' ma2 n mc2 fa op to wr ca)) := K7.out.set 3 _ (by simp) (srow_fa rfl)
  have HB7 : Hid (Below w.heap.size w (w6.setCell ⟨w.heap.size + 4, 3, none⟩ (.int .i64 fa))) := Below.setCell HB6.out (p := ⟨w.heap.size + 4, 3, none⟩) (by simp) _
  have HO7 : Hid (OGst (w6.setCell ⟨w.heap.size + 4, 3, none⟩ (.int .i64 fa)) w1.heap.size m2 w2.heap.size ra2 ma2 rs' n D') := OGst.betw HO6.out ((Betw.refl (w.heap.size + 4) (w.heap.size + 5) w6).setCell (p := ⟨w.heap.size + 4, 3, none⟩) (by simp) (by simp) (.int .i64 fa)) (.inr (by omega)) hm2 hn2
  have f3 := K7.out.cell 3 _ rfl
  have ff := K7.out.free
  have r0 := J6.out.cell 0 _ rfl
  have r1 := J6.out.cell 1 _ rfl
  have r2 := J6.out.cell 2 _ rfl
  have r3 := J6.out.cell 3 _ rfl
  have r4 := J6.out.cell 4 _ rfl
  have r5 := J6.out.cell 5 _ rfl
  have r6 := J6.out.cell 6 _ rfl
  have r7 := J6.out.cell 7 _ rfl
  have rf := J6.out.free
  have t0 := J7.out.cell 0 _ rfl
  have t1 := J7.out.cell 1 _ rfl
  have t2 := J7.out.cell 2 _ rfl
  have t3 := J7.out.cell 3 _ rfl
  have t4 := J7.out.cell 4 _ rfl
  have t5 := J7.out.cell 5 _ rfl
  have t6 := J7.out.cell 6 _ rfl
  have t7 := J7.out.cell 7 _ rfl
  go_wp2
  have k8 := bk8 J6.out (.slice ra2 16 rc2) (.int .u32 pc') (.slice ma2 n mc2) (.int .i64 fa) (.int .i64 op) (.int .i64 to) (.bool wr) (.bool ca)
  have h8 := b8 HB7.out (R := w.heap.size + 3) (by omega) (.slice ra2 16 rc2) (.int .u32 pc') (.slice ma2 n mc2) (.int .i64 fa) (.int .i64 op) (.int .i64 to) (.bool wr) (.bool ca)
  have o8 := OGst.betw HO7.out (t8 (w6.setCell ⟨w.heap.size + 4, 3, none⟩ (.int .i64 fa)) (w.heap.size + 3) (.slice ra2 16 rc2) (.int .u32 pc') (.slice ma2 n mc2) (.int .i64 fa) (.int .i64 op) (.int .i64 to) (.bool wr) (.bool ca)) (.inr (by omega)) hm2 hn2
  have z8 : w6.heap.size ≤ (((((((((w6.setCell ⟨w.heap.size + 4, 3, none⟩ (.int .i64 fa)).setCell ⟨w.heap.size + 3, 0, none⟩ (.slice ra2 16 rc2)).setCell ⟨w.heap.size + 3, 1, none⟩ (.int .u32 pc')).setCell ⟨w.heap.size + 3, 2, none⟩ (.slice ma2 n mc2)).setCell ⟨w.heap.size + 3, 3, none⟩ (.int .i64 fa)).setCell ⟨w.heap.size + 3, 4, none⟩ (.int .i64 op)).setCell ⟨w.heap.size + 3, 5, none⟩ (.int .i64 to)).setCell ⟨w.heap.size + 3, 6, none⟩ (.bool wr)).setCell ⟨w.heap.size + 3, 7, none⟩ (.bool ca)).heap.size := by simp [World.setCell]
  clear f3 ff r0 r1 r2 r3 r4 r5 r6 r7 rf t0 t1 t2 t3 t4 t5 t6 t7 K6 K7 J6 J7 HB6 HB7 HO6 HO7
  revert k8 h8 o8 z8
  generalize (((((((((w6.setCell ⟨w.heap.size + 4, 3, none⟩ (.int .i64 fa)).setCell ⟨w.heap.size + 3, 0, none⟩ (.slice ra2 16 rc2)).setCell ⟨w.heap.size + 3, 1, none⟩ (.int .u32 pc')).setCell ⟨w.heap.size + 3, 2, none⟩ (.slice ma2 n mc2)).setCell ⟨w.heap.size + 3, 3, none⟩ (.int .i64 fa)).setCell ⟨w.heap.size + 3, 4, none⟩ (.int .i64 op)).setCell ⟨w.heap.size + 3, 5, none⟩ (.int .i64 to)).setCell ⟨w.heap.size + 3, 6, none⟩ (.bool wr)).setCell ⟨w.heap.size + 3, 7, none⟩ (.bool ca)) = Wf
  intro k8 h8 o8 z8
  have q0 := k8.cell 0 _ rfl
  have q1 := k8.cell 1 _ rfl
  have q2 := k8.cell 2 _ rfl
  have q3 := k8.cell 3 _ rfl
  have q4 := k8.cell 4 _ rfl
  have q5 := k8.cell 5 _ rfl
  have q6 := k8.cell 6 _ rfl
  have q7 := k8.cell 7 _ rfl
  have hwz : w.heap.size ≤ Wf.heap.size := h8.size
  exact bodyPost_ret (v := stp ra2 16 rc2 pc' ma2 n mc2 fa op to wr ca) (by simp [results, Tryz.results9, go_sem, q0, q1, q2, q3, q4, q5, q6, q7]) rfl ⟨ra2, ma2, rc2, mc2, m2, rfl, h8, OGst.wide o8 (by omega) (by omega), by omega, by omega⟩
end Go.Proofs.YtjlhkjiccibgdaaGreatDoor
