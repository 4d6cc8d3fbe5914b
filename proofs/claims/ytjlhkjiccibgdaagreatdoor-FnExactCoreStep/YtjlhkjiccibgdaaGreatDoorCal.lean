/-
  Steps held against one another, marked and asked for their marks: the laws' helpers. Conditions: registers, rows and bytes are at most 1048576 together.
  CoreStep, the specification's and the program's own: at all arguments there is one step that both answer. And a step that an answer brought lies in a variable of its own: plain facts on worlds. Conditions: registers, rows and bytes are at most 1048576 together; the registers are words, the memory bytes.
-/
import Derived.Test.YtjlhkjiccibgdaaGreatDoorCsp
import Derived.Test.YtjlhkjiccibgdaaGreatDoorCcs
import Derived.Test.YtjlhkjiccibgdaaGreatDoorCsc
import Derived.Test.YtjlhkjiccibgdaaGreatDoorRdg
namespace Go.Proofs.YtjlhkjiccibgdaaGreatDoor
open Go.ChangeShapes Go.WideShapes Go.ChangeAt Go.RowKit Go.Deep
set_option linter.unusedVariables false

set_option maxHeartbeats 2000000 in
theorem eq_step (pc fa op to : Int) (wr ca : Bool) (ra rb ma mb : Option Addr) (rl c1 c2 n d1 d2 : Nat) (rs : List Int) (D : Nat → List Int) (w : World) (ha : GSeg w ra ma rs n D) (hb : GSeg w rb mb rs n D) (hl : rs.length = rl) (hr : rl ≤ 1048576) (hn : n ≤ 1048576) (ht : btot D n ≤ 1048576) :
    Calls Tryz.prog 10 #[stp ra rl c1 pc ma n d1 fa op to wr ca, stp rb rl c2 pc mb n d2 fa op to wr ca] w fun e w' => e = .returned (.bool true) ∧ Below w.heap.size w w' := by
  have hbw : Below w.heap.size w ((w.alloc (.cells (srow ra rl c1 pc ma n d1 fa op to wr ca) 32)).alloc (.cells (srow rb rl c2 pc mb n d2 fa op to wr ca) 32)) := ((Below.refl _ w).alloc (Nat.le_refl _) _).alloc (by simp) _
  have B0 := (Bk.new w (srow ra rl c1 pc ma n d1 fa op to wr ca) 32 w.heap.size rfl).alloc (.cells (srow rb rl c2 pc mb n d2 fa op to wr ca) 32)
  have B1 := Bk.new (w.alloc (.cells (srow ra rl c1 pc ma n d1 fa op to wr ca) 32)) (srow rb rl c2 pc mb n d2 fa op to wr ca) 32 (w.heap.size + 1) (by simp)
  have HE : Hid _ := eq_guest pc ra rb ma mb rl c1 c2 n d1 d2 rs D _ (ha.below hbw) (hb.below hbw) hl hr hn ht
  have HB : Hid (Below w.heap.size w _) := hbw
  have HK : Hid (Bk _ w.heap.size (srow ra rl c1 pc ma n d1 fa op to wr ca) ∧ Bk _ (w.heap.size + 1) (srow rb rl c2 pc mb n d2 fa op to wr ca)) := ⟨B0, B1⟩
  clear ha hb hl ht hbw B0 B1
  go_enter Tryz.func10, Tryz.ntmps10
  go_wp2_with fail
  refine Calls.mono HE.out ?_
  rintro u w1 ⟨rfl, hb1⟩
  have HB1 : Hid (Below w.heap.size w w1) := HB.out.trans (hb1.mono HB.out.size)
  have K0 := HK.out.1.below hb1
  have K1 := HK.out.2.below hb1
  have p3 := K0.cell 3 _ rfl
  have p4 := K0.cell 4 _ rfl
  have p5 := K0.cell 5 _ rfl
  have p6 := K0.cell 6 _ rfl
  have p7 := K0.cell 7 _ rfl
  have q3 := K1.cell 3 _ rfl
  have q4 := K1.cell 4 _ rfl
  have q5 := K1.cell 5 _ rfl
  have q6 := K1.cell 6 _ rfl
  have q7 := K1.cell 7 _ rfl
  clear K0 K1 hb1 HE HB HK
  go_wp2
  go_ret
  exact ⟨rfl, HB1.out⟩
set_option maxHeartbeats 2000000 in
theorem mark_step (pc fa op to : Int) (wr ca : Bool) (lo m hi c1 n d1 k rl : Nat) (ra ma : Option Addr) (rs : List Int) (D : Nat → List Int) (w : World) (ho : OGst w lo m hi ra ma rs n D) (hl : rs.length = rl) (hr : rl ≤ 1048576) (hn : n ≤ 1048576) (ht : btot D n ≤ 1048576) (hk1 : k ≤ 8000000) (hhi : hi ≤ w.heap.size) (hlm : lo ≤ m) (hmh : m ≤ hi) :
    Calls Tryz.prog 15 #[stp ra rl c1 pc ma n d1 fa op to wr ca, .int .i64 k] w fun e w' => e = .returned (.int .i64 ((k + rl + btot D n : Nat) : Int)) ∧ Betw lo hi w w' ∧ OGst w' lo m hi ra ma (marksM 4294967296 k rl) n (bmarkD (k + rl) D) := by
  have hbw : Below w.heap.size w (w.alloc (.cells (srow ra rl c1 pc ma n d1 fa op to wr ca) 32)) := (Below.refl _ w).alloc (Nat.le_refl _) _
  have HM : Hid _ := mark_guest pc lo m hi c1 n d1 k rl ra ma rs D _ (ho.below hbw) hl hr hn ht hk1 (Nat.le_trans hhi hbw.size) hlm hmh
  have HB : Hid (Betw lo hi w (w.alloc (.cells (srow ra rl c1 pc ma n d1 fa op to wr ca) 32))) := Below.betw hbw
  clear ho hl ht hbw
  go_enter Tryz.func15, Tryz.ntmps15
  go_wp2_with fail
  refine Calls.mono HM.out ?_
  rintro u w1 ⟨rfl, hb1, ho1⟩
  have HB1 : Hid (Betw lo hi w w1) := HB.out.trans hb1
  have HO1 : Hid (OGst w1 lo m hi ra ma (marksM 4294967296 k rl) n (bmarkD (k + rl) D)) := ho1
  clear hb1 ho1 HB HM
  go_wp2
  go_ret
  exact ⟨rfl, HB1.out, HO1.out⟩
set_option maxHeartbeats 2000000 in
theorem held_step (pc fa op to : Int) (wr ca : Bool) (c1 n d1 k rl : Nat) (ra ma : Option Addr) (D : Nat → List Int) (w : World) (hs : GSeg w ra ma (marksM 4294967296 k rl) n (bmarkD (k + rl) D)) (hr : rl ≤ 1048576) (hn : n ≤ 1048576) (ht : btot D n ≤ 1048576) (hk1 : k ≤ 8000000) :
    Calls Tryz.prog 16 #[stp ra rl c1 pc ma n d1 fa op to wr ca, .int .i64 k] w fun e w' => e = .returned (.int .i64 ((k + rl + btot D n : Nat) : Int)) ∧ Below w.heap.size w w' := by
  have hbw : Below w.heap.size w (w.alloc (.cells (srow ra rl c1 pc ma n d1 fa op to wr ca) 32)) := (Below.refl _ w).alloc (Nat.le_refl _) _
  have HM : Hid _ := held_guest pc c1 n d1 k rl ra ma D _ (hs.below hbw) hr hn ht hk1
  have HB : Hid (Below w.heap.size w (w.alloc (.cells (srow ra rl c1 pc ma n d1 fa op to wr ca) 32))) := hbw
  obtain ⟨q, HQ⟩ : ∃ q, Hid (k + rl + btot D n = q) := ⟨_, rfl⟩
  rw [HQ.out] at HM ⊢
  have hq : ¬ ((q : Int) < 0) := by omega
  clear hs ht hbw HQ
  go_enter Tryz.func16, Tryz.ntmps16
  go_wp2_with fail
  refine Calls.mono HM.out ?_
  rintro u w1 ⟨rfl, hb1⟩
  have HB1 : Hid (Below w.heap.size w w1) := HB.out.trans (hb1.mono HB.out.size)
  clear hb1 HB HM
  go_wp2
  go_ret
  exact ⟨rfl, HB1.out⟩
end Go.Proofs.YtjlhkjiccibgdaaGreatDoor
namespace Go.Proofs.YtjlhkjiccibgdaaGreatDoor
open Go.ChangeShapes Go.WideShapes Go.ChangeAt Go.RowKit Go.Deep
set_option linter.unusedVariables false

def SPA (X : World) (rs' : List Int) (rl' : Nat) (pc' : Int) (n' : Nat) (D' : Nat → List Int) (fa op to : Int) (wr ca : Bool) (e : Ending) (w' : World) : Prop :=
  ∃ ra' ma' rc' mc', e = .returned (stp ra' rl' rc' pc' ma' n' mc' fa op to wr ca) ∧ Below X.heap.size X w' ∧ Sep w' X.heap.size w'.heap.size ra' ma' rs' n' D'
def SQA (X : World) (rs' : List Int) (rl' : Nat) (pc' : Int) (n' : Nat) (D' : Nat → List Int) (fa op to : Int) (wr ca : Bool) (e : Ending) (w' : World) : Prop :=
  ∃ ra' ma' rc' mc' m, e = .returned (stp ra' rl' rc' pc' ma' n' mc' fa op to wr ca) ∧ Below X.heap.size X w' ∧ OGst w' X.heap.size m w'.heap.size ra' ma' rs' n' D' ∧ X.heap.size ≤ m ∧ m ≤ w'.heap.size
theorem core_alike (pc cy : Int) (wn rl n : Nat) (xs : List Wn) (rs : List Int) (D : Nat → List Int) (hf : Fit xs) (hl : xs.length = wn) (hn : wn ≤ 1048576) (hrl : rs.length = rl) (hr1 : rl ≤ 1048576) (hn1 : n ≤ 1048576) (ht : btot D n ≤ 1048576) (hw : ∀ z ∈ rs, (Lit.int .u32 z).wf = true) (hp : (Lit.int .u32 pc).wf = true) (hb8 : ∀ i, i < n → ∀ z ∈ D i, (Lit.int .u8 z).wf = true) :
    ∃ rs' rl' pc' n' D' fa op to wr ca, rs'.length = rl' ∧ rl' ≤ 1048576 ∧ n' ≤ 1048576 ∧ btot D' n' ≤ 1048576 ∧
      (∀ (X : World) a1 ra1 ma1, ASeg X a1 xs → GSeg X ra1 ma1 rs n D → Calls Tryz.prog 6 #[.slice a1 wn wn, gst ra1 rl rl pc ma1 n n, .int .i64 cy] X (SPA X rs' rl' pc' n' D' fa op to wr ca)) ∧
      (∀ (X : World) a1 ra1 ma1, Is.Tab X → ASeg X a1 xs → GSeg X ra1 ma1 rs n D → Calls Tryz.prog 9 #[.slice a1 wn wn, gst ra1 rl rl pc ma1 n n, .int .i64 cy] X (SQA X rs' rl' pc' n' D' fa op to wr ca)) := by
  obtain ⟨hp0, hp1⟩ := bounds_u32 hp
  by_cases hg : GOk xs rs n D
  · obtain ⟨rs', pc', D', fa, op, to, wr, ca, hst, hl1, hl2⟩ := StepP.ex hg hb8 pc cy
    have h16 := hg.2.1
    obtain rfl : n = wn := hg.2.2.2.1.trans hl
    obtain rfl : rl = 16 := hrl.symm.trans h16
    refine ⟨rs', 16, pc', n, D', fa, op, to, wr, ca, hl1.trans h16, by omega, hn1, by rw [btot_len hl2]; exact ht, fun X a1 ra1 ma1 h1 h2 => ?_, fun X a1 ra1 ma1 hT h1 h2 => ?_⟩
    · exact spec_core a1 ra1 ma1 n 16 n n pc pc' cy fa op to wr ca xs rs rs' D D' X h1 hf (Nat.le_refl _) h2 hn1 ht hg (fun Y lo hi ra' ma' rc' mc' hY hlo hlh hhi hS => spec_step hst lo hi rc' mc' n ra' ma' a1 Y hg hb8 (h1.below hY) (fun h0 b off e => by
        obtain ⟨b1, o1, e1, hlt, _⟩ := h1 (by omega)
        rw [e] at e1
        injection e1 with e1
        injection e1 with e1 e2 e3
        omega) hS hw hp0 hp1 hlh hhi)
    · exact impl_core hst a1 ra1 ma1 n 16 n X hT h1 hf (Nat.le_refl _) h2 hn1 ht hg hb8 hw hp0 hp1
  · refine ⟨[], 0, 0, 0, noD, 9, -1, -1, false, false, rfl, by omega, by omega, by rw [btot_no]; omega, fun X a1 ra1 ma1 h1 h2 => ?_, fun X a1 ra1 ma1 hT h1 h2 => ?_⟩
    · refine (spec_core_no a1 ra1 ma1 wn wn rl rl n n pc cy xs rs D X h1 hf hl (by omega) (Nat.le_refl _) h2 hrl hg).mono fun e w' hh => ?_
      exact ⟨none, none, 0, 0, hh.1, hh.2, sep_no _ _ _ hh.2.size⟩
    · refine (impl_core_no a1 ra1 ma1 wn wn rl rl n n pc cy xs rs D X h1 hf hl (by omega) (Nat.le_refl _) h2 hrl hg).mono fun e w' hh => ?_
      exact ⟨none, none, 0, 0, X.heap.size, hh.1, hh.2, og_no _ _ _ _, Nat.le_refl _, hh.2.size⟩
/-- A step in a variable of its own. -/
def SSF (w1 V : World) (k : Nat) (ra ma : Option Addr) (rs : List Int) (rl rc : Nat) (pc : Int) (n mc : Nat) (D : Nat → List Int) (fa op to : Int) (wr ca : Bool) : Prop :=
  Below w1.heap.size w1 V ∧ Bk V k (srow ra rl rc pc ma n mc fa op to wr ca) ∧ GSeg V ra ma rs n D ∧ w1.heap.size ≤ k
theorem ssf_new {w1 w7 : World} {lo hi : Nat} {ra ma : Option Addr} {rs : List Int} {rl rc : Nat} {pc : Int} {n mc : Nat} {D : Nat → List Int} {fa op to : Int} {wr ca : Bool} (hb : Below w1.heap.size w1 w7) (ho : Sep w7 lo hi ra ma rs n D) (T : TypeId) :
    SSF w1 (w7.alloc (.cells (srow ra rl rc pc ma n mc fa op to wr ca) T)) w7.heap.size ra ma rs rl rc pc n mc D fa op to wr ca :=
  ⟨hb.alloc hb.size _, Bk.new w7 _ T w7.heap.size rfl, Sep.seg (Sep.below ho ((Below.refl _ _).alloc (Nat.le_refl _) _)), hb.size⟩
theorem ssf_set {w1 w7 : World} {k lo hi : Nat} {ra ma : Option Addr} {rs : List Int} {rl rc : Nat} {pc : Int} {n mc : Nat} {D : Nat → List Int} {fa op to : Int} {wr ca : Bool} (hb : Below w1.heap.size w1 w7) (hV : Bk w7 k (srow none 0 0 0 none 0 0 0 0 0 false false)) (hk : w1.heap.size ≤ k) (ho : Sep w7 lo hi ra ma rs n D) (hlo : k < lo) :
    SSF w1 ((((((((w7.setCell ⟨k, 0, none⟩ (.slice ra rl rc)).setCell ⟨k, 1, none⟩ (.int .u32 pc)).setCell ⟨k, 2, none⟩ (.slice ma n mc)).setCell ⟨k, 3, none⟩ (.int .i64 fa)).setCell ⟨k, 4, none⟩ (.int .i64 op)).setCell ⟨k, 5, none⟩ (.int .i64 to)).setCell ⟨k, 6, none⟩ (.bool wr)).setCell ⟨k, 7, none⟩ (.bool ca)) k ra ma rs rl rc pc n mc D fa op to wr ca := by
  have hbt := t8 w7 k (.slice ra rl rc) (.int .u32 pc) (.slice ma n mc) (.int .i64 fa) (.int .i64 op) (.int .i64 to) (.bool wr) (.bool ca)
  exact ⟨b8 hb hk _ _ _ _ _ _ _ _, bk8 hV _ _ _ _ _ _ _ _, Sep.seg (Sep.betw ho hbt (.inr (by omega))), hk⟩
theorem ssf_setO {w1 w7 : World} {k lo m hi : Nat} {ra ma : Option Addr} {rs : List Int} {rl rc : Nat} {pc : Int} {n mc : Nat} {D : Nat → List Int} {fa op to : Int} {wr ca : Bool} (hb : Below w1.heap.size w1 w7) (hV : Bk w7 k (srow none 0 0 0 none 0 0 0 0 0 false false)) (hk : w1.heap.size ≤ k) (ho : OGst w7 lo m hi ra ma rs n D) (hlo : k < lo) (hlm : lo ≤ m) (hmh : m ≤ hi) :
    SSF w1 ((((((((w7.setCell ⟨k, 0, none⟩ (.slice ra rl rc)).setCell ⟨k, 1, none⟩ (.int .u32 pc)).setCell ⟨k, 2, none⟩ (.slice ma n mc)).setCell ⟨k, 3, none⟩ (.int .i64 fa)).setCell ⟨k, 4, none⟩ (.int .i64 op)).setCell ⟨k, 5, none⟩ (.int .i64 to)).setCell ⟨k, 6, none⟩ (.bool wr)).setCell ⟨k, 7, none⟩ (.bool ca)) k ra ma rs rl rc pc n mc D fa op to wr ca :=
  ssf_set hb hV hk (OGst.sep ho hlm hmh) hlo
theorem ssf_newO {w1 w7 : World} {lo m hi : Nat} {ra ma : Option Addr} {rs : List Int} {rl rc : Nat} {pc : Int} {n mc : Nat} {D : Nat → List Int} {fa op to : Int} {wr ca : Bool} (hb : Below w1.heap.size w1 w7) (ho : OGst w7 lo m hi ra ma rs n D) (hlm : lo ≤ m) (hmh : m ≤ hi) (T : TypeId) :
    SSF w1 (w7.alloc (.cells (srow ra rl rc pc ma n mc fa op to wr ca) T)) w7.heap.size ra ma rs rl rc pc n mc D fa op to wr ca := ssf_new hb (OGst.sep ho hlm hmh) T
theorem st8 {w : World} {b k : Nat} {i : Nat} {v a0 a1 a2 a3 a4 a5 a6 a7 : Value} (hn : b ≠ k) (h : w.cell? ⟨b, i, none⟩ = some v) :
    ((((((((w.setCell ⟨k, 0, none⟩ a0).setCell ⟨k, 1, none⟩ a1).setCell ⟨k, 2, none⟩ a2).setCell ⟨k, 3, none⟩ a3).setCell ⟨k, 4, none⟩ a4).setCell ⟨k, 5, none⟩ a5).setCell ⟨k, 6, none⟩ a6).setCell ⟨k, 7, none⟩ a7).cell? ⟨b, i, none⟩ = some v :=
  st1 hn (st1 hn (st1 hn (st1 hn (st1 hn (st1 hn (st1 hn (st1 hn h)))))))
end Go.Proofs.YtjlhkjiccibgdaaGreatDoor
