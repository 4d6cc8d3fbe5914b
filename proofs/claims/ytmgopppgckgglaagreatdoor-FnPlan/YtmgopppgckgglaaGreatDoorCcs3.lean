
/-
  Three lists of slots joined into one by the library's own function. Conditions: the lists lie in memory; 1 to 60 slots in all.
-/
import Derived.Test.YtmgopppgckgglaaGreatDoorBas
import Derived.Test.YtmgopppgckgglaaGreatDoorJsp
import Derived.Lib.SmallJoins
import Derived.Lib.AppendZerosOnto
import Derived.Lib.Walk
import Derived.Lib.SliceRun
import Derived.Shelf.RegionOpenPlain
namespace Go.Proofs.YtmgopppgckgglaaGreatDoor
open Go.ChangeShapes Go.WideShapes Go.ChangeAt Go.RowKit Go.Deep Go.Joins
set_option linter.unusedVariables false

set_option maxRecDepth 20000 in
set_option maxHeartbeats 4000000 in
theorem grow_sl (N : Nat) (w : World) (h1 : 1 ≤ N) (h2 : N ≤ 60) : Calls Tryz.prog 91 #[.slice none 0 0, .int .i64 (N : Int)] w fun e w' => ∃ G, e = .returned (.slice (some ⟨w.heap.size, 0, none⟩) 0 G) ∧ w'.ownsRow w.heap.size 46 3 (.slice (some ⟨w.heap.size, 0, none⟩) 0 G) 0 [] ∧ Below w.heap.size w w' := by
  obtain ⟨i0, hi0, hz0, hs0, hb0⟩ := sli
  have hGn : N ≤ grownCap w N 0 46 := grownCap_ge w _ _ _
  have hrz : ∀ ty, (Builtin.append_ #[31, 3] ty #[.slice none 0 0, .int .i64 (N : Int)]).run Tryz.prog w = .ok (.slice (some ⟨w.heap.size, 0, none⟩) N (grownCap w N 0 46)) (w.drew.alloc (.cells (([] : List Value).toArray ++ Builtin.zeroCells (Value.cells (.agg #[.int .i64 0, .int .i64 0, .int .i64 0])) N ++ Builtin.zeroCells (Value.cells (.agg #[.int .i64 0, .int .i64 0, .int .i64 0])) (grownCap w N 0 46 - N)) 46)) := fun ty => by
    have h := Lib.run_append_grow_zeros (P := Tryz.prog) w 31 3 ty 46 i0 _ .i64 .i64 Tryz.underlying31 Tryz.underlying3 hi0 hz0 none 0 0 [] (by rw [hs0]; exact run_firstCells_none w.drew 3 0 0 0) N (by omega) (by omega) (by omega) (by omega) (by rw [hb0]; omega) (by rw [hb0, Nat.zero_add, nextslicecap_zero (by omega)]; omega)
    simpa using h
  have hG63 : grownCap w N 0 46 ≤ 9223372036854775807 := by
    have := grownCap_le_maxLen w N 0 46 (by unfold maxLen; omega)
    unfold maxLen at this
    omega
  have hbel : ∀ ob, Below w.heap.size w (w.alloc ob).drew := fun ob => ((Below.refl _ w).alloc (Nat.le_refl _) _).drew
  have hown : ∀ (G : Nat) (cs : Array Value), G ≤ maxLen → cs.size = G * 3 → (w.alloc (.cells cs 46)).drew.ownsRow w.heap.size 46 3 (.slice (some ⟨w.heap.size, 0, none⟩) 0 G) 0 [] := fun G cs hM hG =>
    ⟨rfl, .inr ⟨w.heap.size, G, cs, rfl, Nat.le_refl _, by show (w.heap.push _)[w.heap.size]? = _; simp, Nat.zero_le _, hM, hG, by simp⟩⟩
  have hsz : ∀ G, N ≤ G → (Builtin.zeroCells #[.int .i64 0, .int .i64 0, .int .i64 0] N ++ Builtin.zeroCells #[.int .i64 0, .int .i64 0, .int .i64 0] (G - N)).size = G * 3 := fun G hG => by
    simp only [Array.size_append, size_zeroCells]
    simp
    omega
  generalize grownCap w N 0 46 = G at *
  have HO : Hid ((w.alloc (.cells (Builtin.zeroCells #[.int .i64 0, .int .i64 0, .int .i64 0] N ++ Builtin.zeroCells #[.int .i64 0, .int .i64 0, .int .i64 0] (G - N)) 46)).drew.ownsRow w.heap.size 46 3 (.slice (some ⟨w.heap.size, 0, none⟩) 0 G) 0 []) := hown G _ (by unfold maxLen; omega) (hsz G hGn)
  have HBL : Hid (Below w.heap.size w (w.alloc (.cells (Builtin.zeroCells #[.int .i64 0, .int .i64 0, .int .i64 0] N ++ Builtin.zeroCells #[.int .i64 0, .int .i64 0, .int .i64 0] (G - N)) 46)).drew) := hbel _
  clear hown hsz hbel hi0 hz0 hs0 hb0
  go_enter Tryz.func91, Tryz.ntmps91
  go_wp2_with (at_builtin; refine Lib.wpList_append_run _ rfl _ _ _ _ rfl _ _ rfl rfl _ _ (hrz _) ?_)
  all_goals (go_ret; exact ⟨G, rfl, HO.out, HBL.out⟩)
theorem seg_wr {k lo hi n : Nat} {w : World} {a : Option Addr} {X : Nat → List Value} (h : GSeg k w a n X) (g : WR k lo hi w a n) : GSegL k lo w a n X := fun h0 => by
  obtain ⟨b, off, e, hlt, hc⟩ := h h0
  obtain ⟨b2, o2, e2, q1, _, _, _, q5⟩ := g h0
  rw [e] at e2
  injection e2 with e2
  injection e2 with e3 e4
  subst e3
  exact ⟨b, off, e, q1, hlt, hc, fun _ => q5⟩
/-- Three lists, named by a row of slices. -/
structure Thr (w : World) (C : Nat) (A : Nat → Option Addr) (L cp : Nat → Nat) (Xs : Nat → List slT) (N : Nat) : Prop where
  c : ∀ i, i < 3 → w.cell? ⟨C, i, none⟩ = some (.slice (A i) (L i) (cp i))
  l : ∀ i, i < 3 → (Xs i).length = L i
  n : L 0 + L 1 + L 2 = N
  g : ∀ i, i < 3 → GSeg 3 w (A i) (L i) (slX (Xs i))
theorem Thr.below {w w' : World} {C : Nat} {A : Nat → Option Addr} {L cp : Nat → Nat} {Xs : Nat → List slT} {N : Nat} (h : Thr w C A L cp Xs N) (hb : Below w.heap.size w w') : Thr w' C A L cp Xs N :=
  ⟨fun i hi => kept_cell hb (h.c i hi), h.l, h.n, fun i hi => (h.g i hi).below hb⟩
def catN (Xs : Nat → List slT) : Nat → List slT
  | 0 => []
  | m + 1 => catN Xs m ++ Xs m
theorem Thr.le {w : World} {C : Nat} {A : Nat → Option Addr} {L cp : Nat → Nat} {Xs : Nat → List slT} {N : Nat} (h : Thr w C A L cp Xs N) : ∀ m, m ≤ 3 → (catN Xs m).length ≤ N ∧ (m = 3 → (catN Xs m).length = N) := by
  intro m hm
  have h0 := h.l 0 (by omega)
  have h1 := h.l 1 (by omega)
  have h2 := h.l 2 (by omega)
  have hn := h.n
  have : m = 0 ∨ m = 1 ∨ m = 2 ∨ m = 3 := by omega
  rcases this with rfl | rfl | rfl | rfl <;> simp [catN] <;> omega
set_option maxRecDepth 20000 in
set_option maxHeartbeats 8000000 in
theorem concat_sl (C N : Nat) (A : Nat → Option Addr) (L cp : Nat → Nat) (Xs : Nat → List slT) (w : World) (hf : Thr w C A L cp Xs N) (h1 : 1 ≤ N) (h2 : N ≤ 60) :
    Calls Tryz.prog 69 #[.slice (some ⟨C, 0, none⟩) 3 3] w fun e w' => (∃ A' c, e = .returned (.slice A' N c) ∧ GSegL 3 w.heap.size w' A' N (slX (catN Xs 3)) ∧ N ≤ c) ∧ Below w.heap.size w w' := by
  have HF : Hid (Thr w C A L cp Xs N) := hf
  obtain ⟨iS, hi1, hi2, hi3, hi4⟩ := sli
  have HIS : Hid (Tryz.prog.info? 46 = some iS ∧ iS.zero = some (.agg #[.int .i64 0, .int .i64 0, .int .i64 0]) ∧ iS.size = 3 ∧ iS.bytes = 24) := ⟨hi1, hi2, hi3, hi4⟩
  clear hi1 hi2 hi3 hi4
  clear hf
  go_enter Tryz.func69, Tryz.ntmps69
  go_wp2
  go_loopw [3, 11] (fun v i wr => ∃ m s : Nat, m ≤ 3 ∧ s ≤ 60 ∧ i = .int .i64 m ∧ v = .int .i64 (s : Int) ∧ wr = w ∧ Hid (s = (catN Xs m).length)) (fun _ i _ => 3 - (intOf i).toNat)
  case atStart => exact ⟨0, 0, by omega, by omega, rfl, rfl, rfl, rfl⟩
  case round =>
    obtain ⟨m, s, hm, hs, rfl, rfl, rfl, HS⟩ := hrel
    by_cases hmn : m < 3
    · have hmn' : (m : Int) < 3 := by omega
      have hc := HF.out.c m hmn
      have hle := (HF.out.le (m + 1) (by omega)).1
      have HS2 : Hid (s + L m = (catN Xs (m + 1)).length) := by show _ = _; rw [catN, List.length_append, ← HS.out, HF.out.l m hmn]
      have hs2 : s + L m ≤ 60 := by have := HS2.out; omega
      generalize L m = l at hc HS2 hs2
      generalize A m = am at hc
      generalize cp m = cm at hc
      clear HS hle
      go_wp2
      go_roundw
      case rel => exact ⟨m + 1, s + l, by omega, hs2, by go_num, by go_num, trivial, HS2⟩
      case measure => simp [intOf]; omega
    · obtain rfl : m = 3 := by omega
      have hsN : s = N := HS.out.trans ((HF.out.le 3 (by omega)).2 rfl)
      subst hsN
      clear HS
      go_wp2_with fail
      refine (grow_sl s _ h1 h2).mono ?_
      rintro e w1 ⟨G, rfl, hown, hb1⟩
      have HB1 : Hid (Below wr.heap.size wr w1) := hb1
      have HO1 : Hid (w1.ownsRow wr.heap.size 46 3 (.slice (some ⟨wr.heap.size, 0, none⟩) 0 G) 0 []) := hown
      clear hb1 hown
      go_wp2
      go_loopw [6, 27] (fun v i wq => ∃ (m len : Nat), m ≤ 3 ∧ len ≤ s ∧ i = .int .i64 m ∧ Hid ((catN Xs m).length = len) ∧ Hid (Below wr.heap.size wr wq) ∧ Hid (wq.ownsRow wr.heap.size 46 3 v len (gcat (slX (catN Xs m)) len))) (fun _ i _ => 3 - (intOf i).toNat)
      case atStart => exact ⟨0, 0, by omega, by omega, rfl, rfl, HB1.out, HO1.out⟩
      case round =>
        rename World => wq
        obtain ⟨m, len, hm, hls, rfl, HLN, HB, HOW⟩ := hrel
        by_cases hmn : m < 3
        rotate_left
        · obtain rfl : m = 3 := by omega
          have hls2 : len = s := HLN.out.symm.trans ((HF.out.le 3 (by omega)).2 rfl)
          subst hls2
          obtain ⟨A', c, e, hcc, hg0, hwr⟩ := own_gen (k := 3) (fun j _ => slX_len _ j) HOW.out
          subst e
          have hg := seg_wr hg0 hwr
          have HE : Hid (GSegL 3 wr.heap.size wq A' len (slX (catN Xs 3)) ∧ Below wr.heap.size wr wq ∧ len ≤ c) := ⟨hg, HB.out, hcc⟩
          clear hg hg0 hwr HOW HB
          go_wp2
          go_ret
          exact ⟨⟨A', c, rfl, HE.out.1, HE.out.2.2⟩, HE.out.2.1⟩
        have hmn' : (m : Int) < 3 := by omega
        have hc := kept_cell HB.out (HF.out.c m hmn)
        have HG : Hid (GSeg 3 wq (A m) (L m) (slX (Xs m))) := (HF.out.g m hmn).below HB.out
        have hle := (HF.out.le (m + 1) (by omega)).1
        have HLN2 : Hid ((catN Xs (m + 1)).length = len + L m) := by show _ = _; rw [catN, List.length_append, HLN.out, HF.out.l m hmn]
        have hl2 : len + L m ≤ s := by have := HLN2.out; omega
        have HGC : Hid (gcat (slX (catN Xs (m + 1))) (len + L m) = gcat (slX (catN Xs m)) len ++ gcat (slX (Xs m)) (L m)) := by
          have e := slX_app (catN Xs m) (Xs m)
          rw [List.length_append, HLN.out, HF.out.l m hmn] at e
          exact e
        generalize L m = l at hc HG HLN2 hl2 HGC
        generalize A m = am at hc HG
        generalize cp m = cm at hc
        clear hle HLN
        go_wp2_with (first
       | (at_builtin
          refine wpList_append_any rfl (.tmp 31) (.tmp 32) 31 rfl wr.heap.size 46 iS (.agg #[.int .i64 0, .int .i64 0, .int .i64 0]) 3 24 Tryz.underlying31 HIS.out.1 HIS.out.2.1 HIS.out.2.2.1 HIS.out.2.2.2 rfl (by decide) (_) len (gcat (slX (catN Xs m)) len) rfl HOW.out am l cm (gcat (slX (Xs m)) l) rfl (gcat_len fun j _ => slX_len _ j) (newsP_of (by decide) (fun j => slX_len _ j) HG.out) (gcat_one fun j _ => slX_one _ j) (by unfold maxLen; omega) (by omega) HB.out.size ?_
          intro vv w9 ho hg hk2
          have HB9 : Hid (Below wr.heap.size wr w9) := HB.out.grown hg HB.out.size (fun q hq => (own_ge HOW.out q hq).1)
          have HO9 : Hid (w9.ownsRow wr.heap.size 46 3 vv (len + l) (gcat (slX (catN Xs (m + 1))) (len + l))) := (by have e := HGC.out; show World.ownsRow _ _ _ _ _ _ _; rw [e]; exact ho)
          clear ho hg hk2)
       | fail)
        go_roundw
        case rel => exact ⟨m + 1, len + l, by omega, hl2, by go_num, HLN2.out, HB9.out, HO9.out⟩
        case measure => simp [intOf]; omega
end Go.Proofs.YtmgopppgckgglaaGreatDoor
