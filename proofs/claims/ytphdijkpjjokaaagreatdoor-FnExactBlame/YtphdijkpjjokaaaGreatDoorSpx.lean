
/-
  Spans one a call: the iterator's state in memory and what a call makes of it. Conditions: the lists lie in memory, the tables are sound.
-/
import Derived.Test.YtphdijkpjjokaaaGreatDoorBas
import Derived.Test.YtphdijkpjjokaaaGreatDoorSpf
import Derived.Test.YtphdijkpjjokaaaGreatDoorDraws
namespace Go.Proofs.YtphdijkpjjokaaaGreatDoor
open Go.ChangeShapes Go.WideShapes Go.ChangeAt Go.RowKit Go.Deep Go.Joins
set_option linter.unusedVariables false

def spV (t : Tb) (o r : Int) : Array Value := #[.int .i64 o, .int .i64 r, .int .i64 (whoV t (o % t.maj)), .int .i64 (phaseV t (o % t.maj))]
/-- The iterator: the open span, the end, the tables. -/
structure Itr (W : World) (t : Tb) (a : Ad) (B0 B1 B2 : Nat) (o r u : Int) : Prop where
  op : W.heap[B0]? = some (.cells (spV t o r) 64 (0, 0))
  to : W.heap[B1]? = some (.cells #[.int .i64 u] 3 (0, 0))
  tb : TBx W B2 t a
  n1 : B0 ≠ B1
  n2 : B0 ≠ B2
  rt : RT t o r
  o0 : 0 ≤ o
theorem Itr.below {W W' : World} {t : Tb} {a : Ad} {B0 B1 B2 : Nat} {o r u : Int} (h : Itr W t a B0 B1 B2 o r u) (hb : Below W.heap.size W W') : Itr W' t a B0 B1 B2 o r u :=
  ⟨row_below h.op hb, row_below h.to hb, h.tb.below hb, h.n1, h.n2, h.rt, h.o0⟩
theorem Itr.grown {W W' : World} {t : Tb} {a : Ad} {B0 B1 B2 : Nat} {o r u : Int} (h : Itr W t a B0 B1 B2 o r u) (hb : ∀ k, k = B0 ∨ k = B1 ∨ k = B2 → W'.heap[k]? = W.heap[k]?) : Itr W' t a B0 B1 B2 o r u :=
  ⟨(hb B0 (.inl rfl)).trans h.op, (hb B1 (.inr (.inl rfl))).trans h.to, (show W'.heap[B2]? = _ from (hb B2 (.inr (.inr rfl))).trans h.tb), h.n1, h.n2, h.rt, h.o0⟩
theorem Turn.setRow {B : Nat} {a w : World} (h : Turn B a w) (cs : Array Value) : Turn B a (w.setRow B cs) :=
  h.trans ⟨rfl, rfl, rfl, (below_setRow (Below.refl 0 w) (Nat.zero_le B) cs).size, fun k _ hn => setRow_other w B k cs hn⟩
theorem res_next {W : World} {B : Nat} {cs : Array Value} {b : Bool} {tmps : Array Value} (h : W.heap[B]? = some (.cells cs 64 (0, 0))) (hl : cs.size = 4) (ht : tmps[3]? = some (.pointer (some ⟨B, 0, none⟩))) (hq : tmps[4]? = some (.bool b)) : (results Tryz.f64 tmps).run Tryz.prog W = .ok (.tuple #[.agg cs, .bool b]) W := by
  have hld : (loadVar 64 ⟨B, 0, none⟩).run Tryz.prog W = .ok (.agg cs) W := run_loadVar_row (P := Tryz.prog) W B 64 64 cs (0, 0) _ h Tryz.underlying64 rfl (by rw [hl]; kernel_rfl)
  unfold results
  rw [Tryz.results64]
  simp [ht, hq, asAddr, hld]
set_option maxRecDepth 40000 in
set_option maxHeartbeats 4000000 in
theorem next_span (t : Tb) (a : Ad) (o r u : Int) (B0 B1 B2 : Nat) (W X : World) (hi : Itr X t a B0 B1 B2 o r u) (hm : TM 0 W t a) (hX : Below W.heap.size W X) (hB0 : W.heap.size ≤ B0) (hw : TW t a) (hs : TS a) (hcs : a.sn ≤ a.sc) (ht : Tm t) (hu : u ≤ 50000) :
    Calls Tryz.prog 64 #[.pointer (some ⟨B0, 0, none⟩), .pointer (some ⟨B1, 0, none⟩), .pointer (some ⟨B2, 0, none⟩)] X fun e w' =>
      (u ≤ o ∧ e = .returned (.tuple #[.agg #[.int .i64 0, .int .i64 0, .int .i64 0, .int .i64 0], .bool false]) ∧ Below X.heap.size X w') ∨
      (o < u ∧ ∃ r', e = .returned (.tuple #[.agg (spV t o (min r u)), .bool true]) ∧ Turn B0 X w' ∧ Itr w' t a B0 B1 B2 r r' u) := by
  have hlt0 := row_lt hi.op
  have hlt1 := row_lt hi.to
  have hlt2 : B2 < X.heap.size := hi.tb.lt
  have hb1 : Below X.heap.size X (X.alloc (.cells #[.int .i64 0, .int .i64 0, .int .i64 0, .int .i64 0] 64)) := (Below.refl _ _).alloc (Nat.le_refl _) _
  have H3 : Hid ((X.alloc (.cells #[.int .i64 0, .int .i64 0, .int .i64 0, .int .i64 0] 64)).heap[X.heap.size]? = some (.cells #[.int .i64 0, .int .i64 0, .int .i64 0, .int .i64 0] 64 (0, 0))) := new_row X _ _ _ rfl
  have HI : Hid (Itr (X.alloc (.cells #[.int .i64 0, .int .i64 0, .int .i64 0, .int .i64 0] 64)) t a B0 B1 B2 o r u) := hi.below hb1
  have HT : Hid (Turn B0 X (X.alloc (.cells #[.int .i64 0, .int .i64 0, .int .i64 0, .int .i64 0] 64))) := (Turn.refl _ _).alloc _
  have HBX : Hid (Below X.heap.size X (X.alloc (.cells #[.int .i64 0, .int .i64 0, .int .i64 0, .int .i64 0] 64))) := hb1
  have HRF : Hid (∀ c Y, 0 ≤ c → c ≤ 1000000 → Turn B0 X Y → Calls Tryz.prog 63 #[tbV t a, .int .i64 c] Y fun e w' => ∃ r, e = .returned (.agg #[.int .i64 c, .int .i64 r, .int .i64 (whoV t (c % t.maj)), .int .i64 (phaseV t (c % t.maj))]) ∧ RT t c r ∧ Below Y.heap.size Y w') := fun c Y h0 h1 hY =>
    rest_from t a c Y (hm.below (hX.trans (hY.below hB0 hX.size))) hw hs hcs ht h0 h1
  have HRT : Hid (RT t o r) := hi.rt
  have HO : Hid (0 ≤ o) := hi.o0
  have hrr : o < r ∧ r ≤ o + 5000 := ⟨hi.rt.lt, hi.rt.le⟩
  have HNN : Hid (B0 ≠ B1 ∧ B0 ≠ B2) := ⟨hi.n1, hi.n2⟩
  have HLT : Hid (B0 < X.heap.size ∧ B1 < X.heap.size ∧ B2 < X.heap.size) := ⟨hlt0, hlt1, hlt2⟩
  have ho0 : 0 ≤ o := hi.o0
  have k0 : (X.alloc (.cells #[.int .i64 0, .int .i64 0, .int .i64 0, .int .i64 0] 64)).cell? ⟨B0, 0, none⟩ = some (.int .i64 o) := row_cell HI.out.op 0 _ rfl
  have k1 : (X.alloc (.cells #[.int .i64 0, .int .i64 0, .int .i64 0, .int .i64 0] 64)).cell? ⟨B1, 0, none⟩ = some (.int .i64 u) := row_cell HI.out.to 0 _ rfl
  clear hi hm hX hw hs hcs ht hlt0 hlt1 hlt2 hb1 hB0
  by_cases g : u ≤ o
  · go_enter Tryz.func64, Tryz.ntmps64
    go_wp2_with (first | (refine wpList_store_row rfl 64 (.tmp 3) (.tmp 10) rfl X.heap.size (#[.int .i64 0, .int .i64 0, .int .i64 0, .int .i64 0]) rfl rfl 64 (#[.int .i64 0, .int .i64 0, .int .i64 0, .int .i64 0]) H3.out (by kernel_rfl) rfl (by simp [Value.oneCell']) ?_) | fail)
    refine bodyPost_ret (v := .tuple #[.agg #[.int .i64 0, .int .i64 0, .int .i64 0, .int .i64 0], .bool false]) (res_next (setRow_heap _ _ _ _ _ _ H3.out) rfl rfl rfl) rfl ?_
    exact Or.inl ⟨g, rfl, below_setRow HBX.out (Nat.le_refl _) _⟩
  have hou : o < u := by omega
  obtain ⟨wo, HWO⟩ : ∃ x, Hid (whoV t (o % t.maj) = x) := ⟨_, rfl⟩
  obtain ⟨ph, HPH⟩ : ∃ x, Hid (phaseV t (o % t.maj) = x) := ⟨_, rfl⟩
  have HOP : Hid ((X.alloc (.cells #[.int .i64 0, .int .i64 0, .int .i64 0, .int .i64 0] 64)).heap[B0]? = some (.cells #[.int .i64 o, .int .i64 r, .int .i64 wo, .int .i64 ph] 64 (0, 0))) := by
    have := HI.out.op
    simp only [spV, HWO.out, HPH.out] at this
    exact this
  have HTO : Hid ((X.alloc (.cells #[.int .i64 0, .int .i64 0, .int .i64 0, .int .i64 0] 64)).heap[B1]? = some (.cells #[.int .i64 u] 3 (0, 0))) := HI.out.to
  have HTB : Hid (TBx (X.alloc (.cells #[.int .i64 0, .int .i64 0, .int .i64 0, .int .i64 0] 64)) B2 t a) := HI.out.tb
  have HMV : Hid (spV t o (min r u) = #[.int .i64 o, .int .i64 (min r u), .int .i64 wo, .int .i64 ph]) := by show spV t o (min r u) = _; unfold spV; rw [HWO.out, HPH.out]
  rw [HMV.out]
  clear HI HWO HPH HRT
  have HX3 : Hid (X.heap.size < (X.alloc (.cells #[.int .i64 0, .int .i64 0, .int .i64 0, .int .i64 0] 64)).heap.size) := row_lt H3.out
  have hb5 : Below (X.alloc (.cells #[.int .i64 0, .int .i64 0, .int .i64 0, .int .i64 0] 64)).heap.size (X.alloc (.cells #[.int .i64 0, .int .i64 0, .int .i64 0, .int .i64 0] 64)) ((X.alloc (.cells #[.int .i64 0, .int .i64 0, .int .i64 0, .int .i64 0] 64)).alloc (.cells #[.int .i64 o, .int .i64 r, .int .i64 wo, .int .i64 ph] 64)) := (Below.refl _ _).alloc (Nat.le_refl _) _
  have H5 : Hid (((X.alloc (.cells #[.int .i64 0, .int .i64 0, .int .i64 0, .int .i64 0] 64)).alloc (.cells #[.int .i64 o, .int .i64 r, .int .i64 wo, .int .i64 ph] 64)).heap[(X.heap.size + 1)]? = some (.cells #[.int .i64 o, .int .i64 r, .int .i64 wo, .int .i64 ph] 64 (0, 0))) := new_row (X.alloc (.cells #[.int .i64 0, .int .i64 0, .int .i64 0, .int .i64 0] 64)) _ _ _ (by simp)
  have HOP5 : Hid (((X.alloc (.cells #[.int .i64 0, .int .i64 0, .int .i64 0, .int .i64 0] 64)).alloc (.cells #[.int .i64 o, .int .i64 r, .int .i64 wo, .int .i64 ph] 64)).heap[B0]? = some (.cells #[.int .i64 o, .int .i64 r, .int .i64 wo, .int .i64 ph] 64 (0, 0))) := row_below HOP.out hb5
  have HTO5 : Hid (((X.alloc (.cells #[.int .i64 0, .int .i64 0, .int .i64 0, .int .i64 0] 64)).alloc (.cells #[.int .i64 o, .int .i64 r, .int .i64 wo, .int .i64 ph] 64)).heap[B1]? = some (.cells #[.int .i64 u] 3 (0, 0))) := row_below HTO.out hb5
  have HTB5 : Hid (TBx ((X.alloc (.cells #[.int .i64 0, .int .i64 0, .int .i64 0, .int .i64 0] 64)).alloc (.cells #[.int .i64 o, .int .i64 r, .int .i64 wo, .int .i64 ph] 64)) B2 t a) := HTB.out.below hb5
  have H35 : Hid (((X.alloc (.cells #[.int .i64 0, .int .i64 0, .int .i64 0, .int .i64 0] 64)).alloc (.cells #[.int .i64 o, .int .i64 r, .int .i64 wo, .int .i64 ph] 64)).heap[X.heap.size]? = some (.cells #[.int .i64 0, .int .i64 0, .int .i64 0, .int .i64 0] 64 (0, 0))) := row_below H3.out hb5
  have HT5 : Hid (Turn B0 X ((X.alloc (.cells #[.int .i64 0, .int .i64 0, .int .i64 0, .int .i64 0] 64)).alloc (.cells #[.int .i64 o, .int .i64 r, .int .i64 wo, .int .i64 ph] 64))) := HT.out.alloc _
  have HN5 : Hid (X.heap.size < X.heap.size + 1) := Nat.lt_succ_self _
  clear hb5 HTO HTB H3 HT HBX HX3
  have k51 : ((X.alloc (.cells #[.int .i64 0, .int .i64 0, .int .i64 0, .int .i64 0] 64)).alloc (.cells #[.int .i64 o, .int .i64 r, .int .i64 wo, .int .i64 ph] 64)).cell? ⟨X.heap.size + 1, 1, none⟩ = some (.int .i64 r) := row_cell H5.out 1 _ rfl
  go_enter Tryz.func64, Tryz.ntmps64
  go_wp2_with (first | (refine wpList_load_row rfl 64 (.tmp 0) rfl B0 rfl 64 (#[.int .i64 o, .int .i64 r, .int .i64 wo, .int .i64 ph]) (0, 0) _ HOP.out Tryz.underlying64 rfl (by kernel_rfl) ?_) | (refine wpList_load_row rfl 41 (.tmp 2) rfl B2 rfl 41 (tbA t a) (0, 0) _ HTB5.out Tryz.underlying41 rfl (by kernel_rfl) ?_) | fail)
  refine Calls.mono (HRF.out r _ (by omega) (by omega) HT5.out) ?_
  rintro e w4 ⟨r', rfl, hrt', hb4⟩
  have HRT4 : Hid (RT t r r') := hrt'
  have HOP4 : Hid (w4.heap[B0]? = some (.cells #[.int .i64 o, .int .i64 r, .int .i64 wo, .int .i64 ph] 64 (0, 0))) := row_below HOP5.out hb4
  have HS1 : Hid ((w4.setRow B0 #[.int .i64 r, .int .i64 r', .int .i64 (whoV t (r % t.maj)), .int .i64 (phaseV t (r % t.maj))]).heap[B0]? = some (.cells #[.int .i64 r, .int .i64 r', .int .i64 (whoV t (r % t.maj)), .int .i64 (phaseV t (r % t.maj))] 64 (0, 0))) := setRow_heap _ _ _ _ _ _ HOP4.out
  have HS2 : Hid ((w4.setRow B0 #[.int .i64 r, .int .i64 r', .int .i64 (whoV t (r % t.maj)), .int .i64 (phaseV t (r % t.maj))]).heap[B1]? = some (.cells #[.int .i64 u] 3 (0, 0))) := (setRow_other _ _ _ _ (fun e => HNN.out.1 e.symm)).trans (row_below HTO5.out hb4)
  have HS3 : Hid ((w4.setRow B0 #[.int .i64 r, .int .i64 r', .int .i64 (whoV t (r % t.maj)), .int .i64 (phaseV t (r % t.maj))]).heap[B2]? = some (.cells (tbA t a) 41 (0, 0))) := (setRow_other _ _ _ _ (fun e => HNN.out.2 e.symm)).trans (HTB5.out.below hb4)
  have HS4 : Hid ((w4.setRow B0 #[.int .i64 r, .int .i64 r', .int .i64 (whoV t (r % t.maj)), .int .i64 (phaseV t (r % t.maj))]).heap[X.heap.size + 1]? = some (.cells #[.int .i64 o, .int .i64 r, .int .i64 wo, .int .i64 ph] 64 (0, 0))) := (setRow_other _ _ _ _ (by have := HLT.out.1; have := HN5.out; omega)).trans (row_below H5.out hb4)
  have HS5 : Hid ((w4.setRow B0 #[.int .i64 r, .int .i64 r', .int .i64 (whoV t (r % t.maj)), .int .i64 (phaseV t (r % t.maj))]).heap[X.heap.size]? = some (.cells #[.int .i64 0, .int .i64 0, .int .i64 0, .int .i64 0] 64 (0, 0))) := (setRow_other _ _ _ _ (by have := HLT.out.1; omega)).trans (row_below H35.out hb4)
  have HST : Hid (Turn B0 X (w4.setRow B0 #[.int .i64 r, .int .i64 r', .int .i64 (whoV t (r % t.maj)), .int .i64 (phaseV t (r % t.maj))])) := (HT5.out.trans (Turn.of_below hb4)).setRow _
  clear hrt' hb4 H5 HOP5 HTO5 HTB5 H35 HT5 k51 HOP k0 k1
  obtain ⟨V6, HV6⟩ : ∃ V, Hid (w4.setRow B0 #[.int .i64 r, .int .i64 r', .int .i64 (whoV t (r % t.maj)), .int .i64 (phaseV t (r % t.maj))] = V) := ⟨_, rfl⟩
  rw [HV6.out] at HS1 HS2 HS3 HS4 HS5 HST
  have k61 : V6.cell? ⟨X.heap.size + 1, 1, none⟩ = some (.int .i64 r) := row_cell HS4.out 1 _ rfl
  have f61 := row_free HS4.out 1
  have k6u : V6.cell? ⟨B1, 0, none⟩ = some (.int .i64 u) := row_cell HS2.out 0 _ rfl
  have HU1 : Hid ((V6.setCell ⟨X.heap.size + 1, 1, none⟩ (.int .i64 (min r u))).heap[X.heap.size + 1]? = some (.cells #[.int .i64 o, .int .i64 (min r u), .int .i64 wo, .int .i64 ph] 64 (0, 0))) := r3_set HS4.out 1 _ rfl
  have HU2 : Hid ((V6.setCell ⟨X.heap.size + 1, 1, none⟩ (.int .i64 (min r u))).heap[X.heap.size]? = some (.cells #[.int .i64 0, .int .i64 0, .int .i64 0, .int .i64 0] 64 (0, 0))) := row_other HS5.out (by have := HN5.out; omega)
  have HN6 : Hid (B0 ≠ X.heap.size + 1 ∧ B1 ≠ X.heap.size + 1 ∧ B2 ≠ X.heap.size + 1 ∧ B0 ≠ X.heap.size ∧ B1 ≠ X.heap.size ∧ B2 ≠ X.heap.size) := by have := HLT.out; have := HN5.out; refine ⟨?_, ?_, ?_, ?_, ?_, ?_⟩ <;> omega
  have HU3 : Hid ((V6.setCell ⟨X.heap.size + 1, 1, none⟩ (.int .i64 (min r u))).heap[B0]? = some (.cells #[.int .i64 r, .int .i64 r', .int .i64 (whoV t (r % t.maj)), .int .i64 (phaseV t (r % t.maj))] 64 (0, 0))) := row_other HS1.out HN6.out.1
  have HU4 : Hid ((V6.setCell ⟨X.heap.size + 1, 1, none⟩ (.int .i64 (min r u))).heap[B1]? = some (.cells #[.int .i64 u] 3 (0, 0))) := row_other HS2.out HN6.out.2.1
  have HU5 : Hid ((V6.setCell ⟨X.heap.size + 1, 1, none⟩ (.int .i64 (min r u))).heap[B2]? = some (.cells (tbA t a) 41 (0, 0))) := row_other HS3.out HN6.out.2.2.1
  have HUT : Hid (Turn B0 X (V6.setCell ⟨X.heap.size + 1, 1, none⟩ (.int .i64 (min r u)))) := ⟨HST.out.os, HST.out.tape, HST.out.output, Nat.le_trans HST.out.size (by simp [World.setCell]), fun k hk hn => (Below.heap_setCell _ _ _ _ (by show k ≠ X.heap.size + 1; omega)).trans (HST.out.block k hk hn)⟩
  go_wp2_with (first | ((refine wpList_store_row rfl 64 (.tmp 0) (.tmp 15) rfl B0 (#[.int .i64 r, .int .i64 r', .int .i64 (whoV t (r % t.maj)), .int .i64 (phaseV t (r % t.maj))]) rfl rfl 64 (#[.int .i64 o, .int .i64 r, .int .i64 wo, .int .i64 ph]) HOP4.out (by kernel_rfl) rfl (by simp [Value.oneCell']) ?_); rw [HV6.out]) | (refine wpList_load_row rfl 64 (.tmp 5) rfl (X.heap.size + 1) rfl 64 (#[.int .i64 o, .int .i64 (min r u), .int .i64 wo, .int .i64 ph]) (0, 0) _ HU1.out Tryz.underlying64 rfl (by kernel_rfl) ?_) | (refine wpList_store_row rfl 64 (.tmp 3) (.tmp 21) rfl X.heap.size (#[.int .i64 o, .int .i64 (min r u), .int .i64 wo, .int .i64 ph]) rfl rfl 64 (#[.int .i64 0, .int .i64 0, .int .i64 0, .int .i64 0]) HU2.out (by kernel_rfl) rfl (by simp [Value.oneCell']) ?_) | fail)
  refine bodyPost_ret (v := .tuple #[.agg #[.int .i64 o, .int .i64 (min r u), .int .i64 wo, .int .i64 ph], .bool true]) (res_next (setRow_heap _ _ _ _ _ _ HU2.out) rfl rfl rfl) rfl ?_
  refine Or.inr ⟨hou, r', rfl, ?_, ?_⟩
  · exact ⟨HUT.out.os, HUT.out.tape, HUT.out.output, Nat.le_trans HUT.out.size (by simp [World.setRow]), fun k hk hn => (setRow_other _ _ _ _ (by omega)).trans (HUT.out.block k hk hn)⟩
  · exact ⟨(setRow_other _ _ _ _ HN6.out.2.2.2.1).trans HU3.out, (setRow_other _ _ _ _ HN6.out.2.2.2.2.1).trans HU4.out, (setRow_other _ _ _ _ HN6.out.2.2.2.2.2).trans HU5.out, HNN.out.1, HNN.out.2, HRT4.out, by omega⟩
end Go.Proofs.YtphdijkpjjokaaaGreatDoor
