
/-
  The specification's copy of a list of words, its SendOn and its RecvOn: what the plain functions say, in memory of its own. Conditions: the words read as words, at most 1048576 of them.
-/
import Derived.Test.YtoofjlfbedjbnaaRows
import Derived.Test.YtoofjlfbedjbnaaCht
import Derived.Test.YtoofjlfbedjbnaaOnu
namespace Go.Proofs.Ytoofjlfbedjbnaa
open Go.ChangeShapes Go.WideShapes Go.ChangeAt Go.RowKit Go.Deep
set_option linter.unusedVariables false

set_option maxHeartbeats 1000000 in
theorem spec_list (a : Option Addr) (n c : Nat) (zs : List Int) (w : World) (hs : Seg .u32 w a zs) (hl : zs.length = n) (hn : n ≤ 1048576) :
    Calls Try.prog 66 #[.slice a n c] w fun e w' => ∃ v, e = .returned v ∧ Below w.heap.size w w' ∧ OwnU w' w.heap.size v zs ∧ v ≠ .slice none 0 0 := by
  have hbw : Below w.heap.size w (w.alloc (.cells #[] 48)) := (Below.refl _ w).alloc (Nat.le_refl _) _
  have HO : Hid (OwnU (w.alloc (.cells #[] 48)) w.heap.size (.slice (some ⟨w.heap.size, 0, none⟩) 0 0) []) := OwnU.new w _ rfl
  have HS : Hid (Seg .u32 (w.alloc (.cells #[] 48)) a zs) := hs.below hbw
  have HB : Hid (Below w.heap.size w (w.alloc (.cells #[] 48))) := hbw
  have HL : Hid (zs.length = n) := hl
  have HLE : Hid (w.heap.size ≤ (w.alloc (.cells #[] 48)).heap.size) := by show _ ≤ _; simp
  have HN : Hid (([] : List Int).length + zs.length ≤ 1048576) := by show _ ≤ _; simp; omega
  clear hs hl hbw
  go_enter Try.func66, Try.ntmps66
  go_wp2_with (at_builtin; (refine wpList_append_us _ rfl (.tmp 3) (.tmp 4) 28 rfl Try.underlying28 w.heap.size (.slice (some ⟨w.heap.size, 0, none⟩) 0 0) [] zs a n c rfl rfl HL.out HO.out HS.out HN.out HLE.out (by simp) ?_; intro v9 w9 ho9 hg9 hv9 hw9; have HZ : Hid (Below w.heap.size w w9 ∧ OwnU w9 w.heap.size v9 zs ∧ v9 ≠ .slice none 0 0) := ⟨Below.grown HB.out hg9 HLE.out (own_low HO.out), ho9, hv9⟩; clear ho9 hg9 hv9 hw9))
  go_ret
  exact ⟨_, rfl, HZ.out.1, HZ.out.2.1, HZ.out.2.2⟩
/-- What SendOn answers: the head, the words, the code. -/
def sndF (k f t d h n : Int) (zs : List Int) (x : Int) : Int × List Int × Int :=
  if outOk k f t d h n = true then (if k = 0 then (0, [x], 0) else if d - h - n = 0 then (h, zs, 2) else (h, zs ++ [x], 0)) else (0, [], 3)
theorem OE.of_own {w : World} {B lo hi : Nat} {zs : List Int} (h : Own .u32 w B zs) (h1 : lo ≤ B) (h2 : B < hi) : OE w lo hi (some ⟨B, 0, none⟩) zs := ⟨B, ON.own h h1 h2⟩
theorem own_lit (k : IntKind) (w : World) (T : TypeId) (ys : List Int) : Own k (w.alloc (.cells (ys.map (Value.int k)).toArray T)) w.heap.size ys := by
  refine ⟨by simp, fun i hi => ?_, fun i => by simp⟩
  simp [hi, List.getD]
set_option maxRecDepth 20000 in
set_option maxHeartbeats 2000000 in
theorem spec_send (k f t d h x : Int) (a : Option Addr) (n c : Nat) (zs : List Int) (h' : Int) (ys : List Int) (cd : Int) (w : World) (hs : Seg .u32 w a zs) (hl : zs.length = n) (hn : n ≤ 1048576) (HR : Hid (sndF k f t d h (n : Int) zs x = (h', ys, cd))) :
    Calls Try.prog 33 #[crw k f t d, oen h a n c, .int .u32 x] w fun e w' => ∃ a' c', e = .returned (.tuple #[oen h' a' ys.length c', .int .i64 cd]) ∧ Below w.heap.size w w' ∧ OE w' w.heap.size w'.heap.size a' ys := by
  have HB : Hid (Below w.heap.size w (((w.alloc (.cells (crow k f t d) 25)).alloc (.cells (orow h a n c) 33)).alloc (.cells (orow 0 none 0 0) 33))) := (((Below.refl _ w).alloc (Nat.le_refl _) _).alloc (by simp) _).alloc (by simp; omega) _
  have HK : Hid (Bk (((w.alloc (.cells (crow k f t d) 25)).alloc (.cells (orow h a n c) 33)).alloc (.cells (orow 0 none 0 0) 33)) w.heap.size (crow k f t d) ∧ Bk (((w.alloc (.cells (crow k f t d) 25)).alloc (.cells (orow h a n c) 33)).alloc (.cells (orow 0 none 0 0) 33)) (w.heap.size + 1) (orow h a n c) ∧ Bk (((w.alloc (.cells (crow k f t d) 25)).alloc (.cells (orow h a n c) 33)).alloc (.cells (orow 0 none 0 0) 33)) (w.heap.size + 2) (orow 0 none 0 0)) := ⟨((Bk.new w _ _ _ rfl).alloc _).alloc _, (Bk.new _ _ _ _ (by simp)).alloc _, Bk.new _ _ _ _ (by simp)⟩
  have HS : Hid (Seg .u32 w a zs) := hs
  have HL : Hid (zs.length = n) := hl
  clear hs hl
  obtain ⟨q, HQ⟩ : ∃ q, Hid (outOk k f t d h (n : Int) = q) := ⟨_, rfl⟩
  have HE : Hid ((if q = true then (if k = 0 then (0, [x], 0) else if d - h - (n : Int) = 0 then (h, zs, 2) else (h, zs ++ [x], 0)) else (0, [], 3)) = (h', ys, cd)) := by rw [← HR.out]; unfold sndF; rw [HQ.out]; exact rfl
  have HE0 : Hid (q = false → h' = 0 ∧ ys = [] ∧ cd = 3) := fun e => by
    have g := HE.out
    rw [e, if_neg (by decide)] at g
    injection g with g1 g2; injection g2 with g2 g3
    exact ⟨g1.symm, g2.symm, g3.symm⟩
  have HE1 : Hid (q = true → k = 0 → h' = 0 ∧ ys = [x] ∧ cd = 0) := fun e e2 => by
    have g := HE.out
    rw [if_pos e, if_pos e2] at g
    injection g with g1 g2; injection g2 with g2 g3
    exact ⟨g1.symm, g2.symm, g3.symm⟩
  have HE2 : Hid (q = true → ¬ k = 0 → d - h - (n : Int) = 0 → h' = h ∧ ys = zs ∧ cd = 2) := fun e e2 e3 => by
    have g := HE.out
    rw [if_pos e, if_neg e2, if_pos e3] at g
    injection g with g1 g2; injection g2 with g2 g3
    exact ⟨g1.symm, g2.symm, g3.symm⟩
  have HE3 : Hid (q = true → ¬ k = 0 → ¬ d - h - (n : Int) = 0 → h' = h ∧ ys = zs ++ [x] ∧ cd = 0) := fun e e2 e3 => by
    have g := HE.out
    rw [if_pos e, if_neg e2, if_neg e3] at g
    injection g with g1 g2; injection g2 with g2 g3
    exact ⟨g1.symm, g2.symm, g3.symm⟩
  clear HE
  have HKD : Hid (q = true → (k = 0 ∧ d = 0) ∨ (k = 1 ∧ 1 ≤ d ∧ d ≤ 8 ∧ 0 ≤ h ∧ h ≤ d)) := fun g => outOk_k (HQ.out.trans g)
  have HN8 : Hid (q = true → ¬ k = 0 → h + (n : Int) ≤ d) := fun g g2 => by
    have := HQ.out.trans g
    unfold outOk at this
    rw [if_neg g2] at this
    simp at this
    omega
  have HRM : Hid (∀ X r, roomF k f t d h (n : Int) = r → Calls Try.prog 27 #[crw k f t d, oen h a n c] X fun e w' => e = .returned (.int .i64 r) ∧ Below X.heap.size X w') := fun X r g => spec_room k f t d h a n c r X g hn
  have HRV : Hid (q = true → roomF k f t d h (n : Int) = if k = 0 then 1 else d - h - (n : Int)) := fun g => by unfold roomF; rw [HQ.out, g]; rfl
  go_enter Try.func33, Try.ntmps33
  go_wp2_with fail
  refine (spec_outok k f t d h a n c q _ HQ hn).mono ?_
  rintro y w1 ⟨rfl, hb1⟩
  have HB1 : Hid (Below w.heap.size w w1) := HB.out.trans (hb1.mono HB.out.size)
  have K1 : Hid (Bk w1 w.heap.size (crow k f t d) ∧ Bk w1 (w.heap.size + 1) (orow h a n c) ∧ Bk w1 (w.heap.size + 2) (orow 0 none 0 0)) := ⟨HK.out.1.below hb1, HK.out.2.1.below hb1, HK.out.2.2.below hb1⟩
  clear HB HK hb1 HQ HR
  have c0 := K1.out.1.cell 0 _ rfl
  have c1 := K1.out.1.cell 1 _ rfl
  have c2 := K1.out.1.cell 2 _ rfl
  have c3 := K1.out.1.cell 3 _ rfl
  have d0 := K1.out.2.1.cell 0 _ rfl
  have d1 := K1.out.2.1.cell 1 _ rfl
  have r0 := K1.out.2.2.cell 0 _ rfl
  have r1 := K1.out.2.2.cell 1 _ rfl
  have rf := K1.out.2.2.free
  cases q
  · obtain ⟨rfl, rfl, rfl⟩ : h' = 0 ∧ ys = [] ∧ cd = 3 := HE0.out (by first | rfl | trivial)
    have k2 : Bk ((w1.setCell ⟨w.heap.size + 2, 0, none⟩ (.int .i64 0)).setCell ⟨w.heap.size + 2, 1, none⟩ (.slice none 0 0)) (w.heap.size + 2) #[.int .i64 0, .slice none 0 0] := (K1.out.2.2.set 0 (.int .i64 0) (by simp) (cs' := #[.int .i64 0, .slice none 0 0]) rfl).set 1 _ (by simp) rfl
    have t2 : Betw (w.heap.size + 2) (w.heap.size + 3) w1 ((w1.setCell ⟨w.heap.size + 2, 0, none⟩ (.int .i64 0)).setCell ⟨w.heap.size + 2, 1, none⟩ (.slice none 0 0)) := ((Betw.refl (w.heap.size + 2) (w.heap.size + 3) w1).setCell (p := ⟨w.heap.size + 2, 0, none⟩) (by simp) (by simp) (.int .i64 0)).setCell (p := ⟨w.heap.size + 2, 1, none⟩) (by simp) (by simp) (.slice none 0 0)
    have x2 : Below w.heap.size w ((w1.setCell ⟨w.heap.size + 2, 0, none⟩ (.int .i64 0)).setCell ⟨w.heap.size + 2, 1, none⟩ (.slice none 0 0)) := HB1.out.trans (t2.below (by omega) HB1.out.size)
    have o2 : True := trivial
    go_wp2
    clear c0 c1 c2 c3 d0 d1 r0 r1 rf K1 HB1 HKD HRM HRV t2
    revert k2 x2 o2
    generalize ((w1.setCell ⟨w.heap.size + 2, 0, none⟩ (.int .i64 0)).setCell ⟨w.heap.size + 2, 1, none⟩ (.slice none 0 0)) = Wf
    intro k2 x2 o2
    have q0 := k2.cell 0 _ rfl
    have q1 := k2.cell 1 _ rfl
    exact bodyPost_ret (v := .tuple #[oen 0 none 0 0, .int .i64 3]) (by simp [results, Try.results33, go_sem, q0, q1]) rfl ⟨none, 0, rfl, x2, OE.nil _ _ _ _⟩
  have hkd := HKD.out rfl
  have hrv := HRV.out rfl
  clear HKD HRV
  rcases hkd with ⟨rfl, rfl⟩ | ⟨rfl, hd1, hd2, hh0, hh1⟩
  · obtain ⟨rfl, rfl, rfl⟩ : h' = 0 ∧ ys = [x] ∧ cd = 0 := HE1.out (by first | rfl | trivial) (by first | rfl | trivial)
    have hz := K1.out.2.2.lt
    have hne : ¬ (w.heap.size + 1 + 1 = w1.heap.size) := by omega
    have KK : Hid (Bk w1 (w.heap.size + 1 + 1) (orow 0 none 0 0)) := K1.out.2.2
    have hsz : ((w1.setCell ⟨w.heap.size + 1 + 1, 0, none⟩ (.int .i64 0)).setCell ⟨w.heap.size + 1 + 1, 1, none⟩ (.slice (some ⟨w1.heap.size, 0, none⟩) 1 1)).heap.size = w1.heap.size := by simp [World.setCell]
    have k2 : Bk (((w1.setCell ⟨w.heap.size + 1 + 1, 0, none⟩ (.int .i64 0)).setCell ⟨w.heap.size + 1 + 1, 1, none⟩ (.slice (some ⟨w1.heap.size, 0, none⟩) 1 1)).alloc (.cells #[.int .u32 x] 48)) (w.heap.size + 1 + 1) (orow 0 (some ⟨w1.heap.size, 0, none⟩) 1 1) := ((KK.out.set 0 (.int .i64 0) (by simp) (cs' := orow 0 none 0 0) rfl).set 1 _ (by simp) rfl).alloc _
    have x2 : Below w.heap.size w (((w1.setCell ⟨w.heap.size + 1 + 1, 0, none⟩ (.int .i64 0)).setCell ⟨w.heap.size + 1 + 1, 1, none⟩ (.slice (some ⟨w1.heap.size, 0, none⟩) 1 1)).alloc (.cells #[.int .u32 x] 48)) := (Below.setCell (Below.setCell HB1.out (p := ⟨w.heap.size + 1 + 1, 0, none⟩) (by simp; omega) _) (p := ⟨w.heap.size + 1 + 1, 1, none⟩) (by simp; omega) _).alloc (by rw [hsz]; exact HB1.out.size) _
    have o2 : OE (((w1.setCell ⟨w.heap.size + 1 + 1, 0, none⟩ (.int .i64 0)).setCell ⟨w.heap.size + 1 + 1, 1, none⟩ (.slice (some ⟨w1.heap.size, 0, none⟩) 1 1)).alloc (.cells #[.int .u32 x] 48)) w.heap.size (((w1.setCell ⟨w.heap.size + 1 + 1, 0, none⟩ (.int .i64 0)).setCell ⟨w.heap.size + 1 + 1, 1, none⟩ (.slice (some ⟨w1.heap.size, 0, none⟩) 1 1)).alloc (.cells #[.int .u32 x] 48)).heap.size (some ⟨w1.heap.size, 0, none⟩) [x] := by
      have g := own_lit .u32 ((w1.setCell ⟨w.heap.size + 1 + 1, 0, none⟩ (.int .i64 0)).setCell ⟨w.heap.size + 1 + 1, 1, none⟩ (.slice (some ⟨w1.heap.size, 0, none⟩) 1 1)) 48 [x]
      rw [hsz] at g
      exact OE.of_own g HB1.out.size (by have := g.lt; exact this)
    clear r0 r1 rf
    have r0 := KK.out.cell 0 _ rfl
    have r1 := KK.out.cell 1 _ rfl
    have rf := KK.out.free
    go_wp2
    clear c0 c1 c2 c3 d0 d1 r0 r1 rf K1 HB1 HRM KK hsz
    revert k2 x2 o2
    generalize (((w1.setCell ⟨w.heap.size + 1 + 1, 0, none⟩ (.int .i64 0)).setCell ⟨w.heap.size + 1 + 1, 1, none⟩ (.slice (some ⟨w1.heap.size, 0, none⟩) 1 1)).alloc (.cells #[.int .u32 x] 48)) = Wf
    intro k2 x2 o2
    have q0 := k2.cell 0 _ rfl
    have q1 := k2.cell 1 _ rfl
    exact bodyPost_ret (v := .tuple #[oen 0 (some ⟨w1.heap.size, 0, none⟩) 1 1, .int .i64 0]) (by simp [results, Try.results33, go_sem, q0, q1]) rfl ⟨_, _, rfl, x2, o2⟩
  have hrr : roomF 1 f t d h (n : Int) = d - h - (n : Int) := by rw [hrv]; rfl
  go_wp2_with fail
  refine Calls.mono (HRM.out _ _ hrr) ?_
  rintro y w2 ⟨rfl, hb2⟩
  have HB2 : Hid (Below w.heap.size w w2) := HB1.out.trans (hb2.mono HB1.out.size)
  have K2 : Hid (Bk w2 (w.heap.size + 1) (orow h a n c) ∧ Bk w2 (w.heap.size + 2) (orow 0 none 0 0)) := ⟨K1.out.2.1.below hb2, K1.out.2.2.below hb2⟩
  clear hb2 HB1 K1 HRM c0 c1 c2 c3 d0 d1 r0 r1 rf hrv hrr
  have hz2 := K2.out.2.lt
  have D0 : Hid (w2.cell? ⟨w.heap.size + 1, 0, none⟩ = some (.int .i64 h)) := K2.out.1.cell 0 _ rfl
  have D1 : Hid (w2.cell? ⟨w.heap.size + 1, 1, none⟩ = some (.slice a n c)) := K2.out.1.cell 1 _ rfl
  have d0 := D0.out
  have d1 := D1.out
  have hb : Below w2.heap.size w2 w2 := Below.refl _ _
  have R0 : Hid (w2.cell? ⟨w.heap.size + 1 + 1, 0, none⟩ = some (.int .i64 0)) := K2.out.2.cell 0 _ rfl
  have R1 : Hid (w2.cell? ⟨w.heap.size + 1 + 1, 1, none⟩ = some (.slice none 0 0)) := K2.out.2.cell 1 _ rfl
  have r0 := R0.out
  have r1 := R1.out
  have rf := Bk.free (show Bk w2 (w.heap.size + 1 + 1) _ from K2.out.2)
  have LS : Hid (∀ X, Below w2.heap.size w2 X → Calls Try.prog 66 #[.slice a n c] X fun e w' => ∃ g cp, e = .returned (.slice (some ⟨g, 0, none⟩) n cp) ∧ Below X.heap.size X w' ∧ OwnU w' X.heap.size (.slice (some ⟨g, 0, none⟩) n cp) zs) := fun X hX => by
    refine (spec_list a n c zs X (HS.out.below (HB2.out.trans (hX.mono HB2.out.size))) HL.out hn).mono ?_
    rintro e w' ⟨v, h1, h2, h3, h4⟩
    rcases h3.2 with ⟨g, _⟩ | ⟨g, cp, cur, e2, _⟩
    · exact absurd g h4
    · rw [HL.out] at e2
      exact ⟨g, cp, by rw [h1, e2], h2, by rw [← e2]; exact h3⟩
  by_cases hz : d - h - (n : Int) = 0
  · have hzb : (d - h - (n : Int) == 0) = true := by simp [hz]
    obtain ⟨rfl, rfl, rfl⟩ : h' = h ∧ ys = zs ∧ cd = 2 := HE2.out (by first | rfl | trivial) (by decide) hz
    go_wp2
    go_region_held_law (fun w' => w'.cell? ⟨w.heap.size + 1, 0, none⟩ = some (.int .i64 h') ∧ w'.cell? ⟨w.heap.size + 1, 1, none⟩ = some (.slice a n c)) (first | with_reducible exact ⟨d0, d1⟩ | with_reducible exact ⟨dr_c d0, dr_c d1⟩ | with_reducible exact ⟨st2 (by omega) d0, st2 (by omega) d1⟩)
      (first | (go_at_call 66; refine Calls.mono (LS.out _ (by first | exact hb | exact hb.drew)) ?_; rintro u w3 ⟨g3, cp3, rfl, hbb, ho3⟩; (first | replace hb := hb.trans (hbb.mono hb.size) | replace hb := hb.drew.trans (hbb.mono hb.drew.size)); replace d0 := kept_c hb D0.out; replace d1 := kept_c hb D1.out; replace r0 := kept_c hb R0.out; replace r1 := kept_c hb R1.out; replace rf := Bk.free (show Bk w3 (w.heap.size + 1 + 1) _ from K2.out.2.below hb); have HO3 : Hid (OwnU w3 _ _ _) := ho3; clear hbb ho3))
    all_goals
      have HKZ : Hid (Bk w3 (w.heap.size + 1 + 1) (orow 0 none 0 0)) := K2.out.2.below hb
      have HBZ : Hid (Below w.heap.size w w3) := HB2.out.trans (hb.mono HB2.out.size)
      have k2 : Bk ((w3.setCell ⟨w.heap.size + 1 + 1, 0, none⟩ (.int .i64 h')).setCell ⟨w.heap.size + 1 + 1, 1, none⟩ (.slice (some ⟨g3, 0, none⟩) n cp3)) (w.heap.size + 1 + 1) #[.int .i64 h', .slice (some ⟨g3, 0, none⟩) n cp3] := (HKZ.out.set 0 (.int .i64 h') (by simp) (cs' := orow h' none 0 0) rfl).set 1 _ (by simp) rfl
      have t2 : Betw (w.heap.size + 2) (w.heap.size + 3) w3 ((w3.setCell ⟨w.heap.size + 1 + 1, 0, none⟩ (.int .i64 h')).setCell ⟨w.heap.size + 1 + 1, 1, none⟩ (.slice (some ⟨g3, 0, none⟩) n cp3)) := ((Betw.refl (w.heap.size + 2) (w.heap.size + 3) w3).setCell (p := ⟨w.heap.size + 1 + 1, 0, none⟩) (by simp) (by simp) (.int .i64 h')).setCell (p := ⟨w.heap.size + 1 + 1, 1, none⟩) (by simp) (by simp) (.slice (some ⟨g3, 0, none⟩) n cp3)
      have x2 : Below w.heap.size w ((w3.setCell ⟨w.heap.size + 1 + 1, 0, none⟩ (.int .i64 h')).setCell ⟨w.heap.size + 1 + 1, 1, none⟩ (.slice (some ⟨g3, 0, none⟩) n cp3)) := HBZ.out.trans (t2.below (by omega) HBZ.out.size)
      have o2 : ∃ a' c', Value.slice (some ⟨g3, 0, none⟩) n cp3 = .slice a' ys.length c' ∧ OE ((w3.setCell ⟨w.heap.size + 1 + 1, 0, none⟩ (.int .i64 h')).setCell ⟨w.heap.size + 1 + 1, 1, none⟩ (.slice (some ⟨g3, 0, none⟩) n cp3)) w.heap.size ((w3.setCell ⟨w.heap.size + 1 + 1, 0, none⟩ (.int .i64 h')).setCell ⟨w.heap.size + 1 + 1, 1, none⟩ (.slice (some ⟨g3, 0, none⟩) n cp3)).heap.size a' ys := by
        obtain ⟨a', c', e', g⟩ := OwnU.oe HO3.out
        exact ⟨a', c', e', OE.wide (OE.betw g t2 (.inr (by simp; omega))) (by simp; omega) (by simp)⟩
      clear hb d0 d1 r0 r1 rf D0 D1 R0 R1 K2 HKZ HBZ t2 HO3
      rename_i hhh
      try clear hhh
      revert k2 x2 o2
      generalize ((w3.setCell ⟨w.heap.size + 1 + 1, 0, none⟩ (.int .i64 h')).setCell ⟨w.heap.size + 1 + 1, 1, none⟩ (.slice (some ⟨g3, 0, none⟩) n cp3)) = Wf
      intro k2 x2 o2
      go_wp2
      have q0 := k2.cell 0 _ rfl
      have q1 := k2.cell 1 _ rfl
      obtain ⟨a', c', e', g⟩ := o2
      refine bodyPost_ret (v := .tuple #[.agg #[.int .i64 h', .slice (some ⟨g3, 0, none⟩) n cp3], .int .i64 2]) (by simp [results, Try.results33, go_sem, q0, q1]) rfl ?_
      exact ⟨a', c', by rw [e'], x2, g⟩
  · have hzb : (d - h - (n : Int) == 0) = false := by simp [hz]
    obtain ⟨e1, e2, e3⟩ : h' = h ∧ ys = zs ++ [x] ∧ cd = 0 := HE3.out (by first | rfl | trivial) (by decide) hz
    subst e1 e2 e3
    have hn8 := HN8.out (by first | rfl | trivial) (by decide)
    have hLL := HL.out
    go_wp2
    go_region_held_law (fun w' => w'.cell? ⟨w.heap.size + 1, 0, none⟩ = some (.int .i64 h') ∧ w'.cell? ⟨w.heap.size + 1, 1, none⟩ = some (.slice a n c)) (first | with_reducible exact ⟨d0, d1⟩ | with_reducible exact ⟨dr_c d0, dr_c d1⟩ | with_reducible exact ⟨al_c _ d0, al_c _ d1⟩ | with_reducible exact ⟨al_c _ (dr_c d0), al_c _ (dr_c d1)⟩ | with_reducible exact ⟨dr_c (al_c _ d0), dr_c (al_c _ d1)⟩ | with_reducible exact ⟨st2 (by omega) d0, st2 (by omega) d1⟩)
      (first | (go_at_call 66; refine Calls.mono (LS.out _ (by first | exact hb | exact hb.drew | exact hb.alloc hb.size _ | exact (hb.alloc hb.size _).drew | exact hb.drew.alloc hb.drew.size _)) ?_; rintro u w3 ⟨g3, cp3, rfl, hbb, ho3⟩; (first | (have hX1 : Seg .u32 w3 (some ⟨w2.heap.size, 0, none⟩) [x] := ((own_lit .u32 w2 48 [x]).below hbb).seg) | (have hX1 : Seg .u32 w3 (some ⟨w2.heap.size, 0, none⟩) [x] := (((own_lit .u32 w2 48 [x]).below (Below.refl _ _).drew).below hbb).seg) | (have hX1 : Seg .u32 w3 (some ⟨w2.heap.size, 0, none⟩) [x] := ((own_lit .u32 w2.drew 48 [x]).below hbb).seg) | skip); have hbn := (by first | exact hb.trans (hbb.mono hb.size) | exact hb.drew.trans (hbb.mono hb.drew.size) | exact (hb.alloc hb.size _).trans (hbb.mono (hb.alloc hb.size _).size) | exact ((hb.alloc hb.size _).drew).trans (hbb.mono ((hb.alloc hb.size _).drew).size) | exact (hb.drew.alloc hb.drew.size _).trans (hbb.mono (hb.drew.alloc hb.drew.size _).size)); replace hb := hbn; clear hbn; replace d0 := kept_c hb D0.out; replace d1 := kept_c hb D1.out; have HO3 : Hid (OwnU w3 w2.heap.size (.slice (some ⟨g3, 0, none⟩) n cp3) zs) := OwnU.low ho3 (by first | exact Nat.le_refl _ | simp); have hz3 := hb.size; clear hbb ho3) | (refine step_append_us _ rfl (.tmp 33) (.tmp 35) 28 rfl Try.underlying28 w2.heap.size (.slice (some ⟨g3, 0, none⟩) n cp3) zs [x] _ 1 1 rfl rfl rfl (by first | exact HO3.out | exact HO3.out.below ((Below.refl _ _).alloc (Nat.le_refl _) _)) (by first | exact hX1 | exact (own_lit .u32 _ 48 [x]).seg) (by simp; omega) (by first | omega | (simp; omega)) (by simp) (some 36) rfl ?_; intro v9 w9 ho9 hg9 hv9 hw9; have HZ9 : Hid (OwnU w9 w2.heap.size v9 (zs ++ [x]) ∧ Below w2.heap.size w2 w9) := ⟨ho9, by first | exact Below.grown hb hg9 hb.size (fun g e => by have := own_low HO3.out g e; omega) | exact Below.grown (hb.alloc hb.size _) hg9 (hb.alloc hb.size _).size (fun g e => by have := own_low HO3.out g e; omega)⟩; replace hb := HZ9.out.2; replace d0 := kept_c hb D0.out; replace d1 := kept_c hb D1.out; replace r0 := kept_c hb R0.out; replace r1 := kept_c hb R1.out; replace rf := Bk.free (show Bk w9 (w.heap.size + 1 + 1) _ from K2.out.2.below hb); obtain ⟨a9, c9, e9, o9⟩ := OwnU.oe HZ9.out.1; subst e9; clear ho9 hg9 hv9 hw9))
    all_goals
      have HKZ : Hid (Bk w9 (w.heap.size + 1 + 1) (orow 0 none 0 0)) := K2.out.2.below hb
      have HBZ : Hid (Below w.heap.size w w9) := HB2.out.trans (hb.mono HB2.out.size)
      have k2 : Bk ((w9.setCell ⟨w.heap.size + 1 + 1, 0, none⟩ (.int .i64 h')).setCell ⟨w.heap.size + 1 + 1, 1, none⟩ (.slice a9 (n + 1) c9)) (w.heap.size + 1 + 1) #[.int .i64 h', .slice a9 (n + 1) c9] := (HKZ.out.set 0 (.int .i64 h') (by simp) (cs' := orow h' none 0 0) rfl).set 1 _ (by simp) rfl
      have t2 : Betw (w.heap.size + 2) (w.heap.size + 3) w9 ((w9.setCell ⟨w.heap.size + 1 + 1, 0, none⟩ (.int .i64 h')).setCell ⟨w.heap.size + 1 + 1, 1, none⟩ (.slice a9 (n + 1) c9)) := ((Betw.refl (w.heap.size + 2) (w.heap.size + 3) w9).setCell (p := ⟨w.heap.size + 1 + 1, 0, none⟩) (by simp) (by simp) (.int .i64 h')).setCell (p := ⟨w.heap.size + 1 + 1, 1, none⟩) (by simp) (by simp) (.slice a9 (n + 1) c9)
      have x2 : Below w.heap.size w ((w9.setCell ⟨w.heap.size + 1 + 1, 0, none⟩ (.int .i64 h')).setCell ⟨w.heap.size + 1 + 1, 1, none⟩ (.slice a9 (n + 1) c9)) := HBZ.out.trans (t2.below (by omega) HBZ.out.size)
      have o2 : OE ((w9.setCell ⟨w.heap.size + 1 + 1, 0, none⟩ (.int .i64 h')).setCell ⟨w.heap.size + 1 + 1, 1, none⟩ (.slice a9 (n + 1) c9)) w.heap.size ((w9.setCell ⟨w.heap.size + 1 + 1, 0, none⟩ (.int .i64 h')).setCell ⟨w.heap.size + 1 + 1, 1, none⟩ (.slice a9 (n + 1) c9)).heap.size a9 (zs ++ [x]) := OE.wide (OE.betw o9 t2 (.inr (by omega))) (by omega) (by simp)
      have hl9 : (zs ++ [x]).length = n + 1 := by simp; omega
      rename_i hhh
      try clear hhh
      clear hb d0 d1 r0 r1 rf D0 D1 R0 R1 K2 HKZ HBZ t2 o9 HO3 HZ9
      revert k2 x2 o2
      generalize ((w9.setCell ⟨w.heap.size + 1 + 1, 0, none⟩ (.int .i64 h')).setCell ⟨w.heap.size + 1 + 1, 1, none⟩ (.slice a9 (n + 1) c9)) = Wf
      intro k2 x2 o2
      go_wp2
      have q0 := k2.cell 0 _ rfl
      have q1 := k2.cell 1 _ rfl
      refine bodyPost_ret (v := .tuple #[oen h' a9 (n + 1) c9, .int .i64 0]) (by simp [results, Try.results33, go_sem, q0, q1]) rfl ?_
      exact ⟨a9, c9, by rw [hl9], x2, o2⟩
theorem snd_len {k f t d h : Int} {n : Nat} {zs : List Int} {x h' : Int} {ys : List Int} {cd : Int} (g : sndF k f t d h (n : Int) zs x = (h', ys, cd)) (hl : zs.length = n) (hn : n ≤ 1048576) : ys.length ≤ 1048576 := by
  unfold sndF at g
  split at g
  · rename_i hq
    split at g
    · injection g with g1 g2; injection g2 with g2 g3
      rw [← g2]; simp
    · rename_i hk
      split at g
      · injection g with g1 g2; injection g2 with g2 g3
        rw [← g2]; omega
      · injection g with g1 g2; injection g2 with g2 g3
        have h8 : (n : Int) ≤ 8 := by
          rcases outOk_k hq with ⟨h1, _⟩ | ⟨_, h2, h3, h4, h5⟩
          · exact absurd h1 hk
          · unfold outOk at hq
            rw [if_neg hk] at hq
            simp at hq
            omega
        rw [← g2]; simp; omega
  · injection g with g1 g2; injection g2 with g2 g3
    rw [← g2]; simp
end Go.Proofs.Ytoofjlfbedjbnaa
