
/-
  A slot split, by the program: whole. Conditions: the lists lie in memory; the numbers fit; the table opExtras lies as its text lays it.
-/
import Derived.Test.YtmgopppgckgglaaGreatDoorBas
import Derived.Test.YtmgopppgckgglaaGreatDoorJsp
import Derived.Test.YtmgopppgckgglaaGreatDoorIsp
import Derived.Test.YtmgopppgckgglaaGreatDoorIsc
import Derived.Test.YtmgopppgckgglaaGreatDoorRl3
import Derived.Test.YtmgopppgckgglaaGreatDoorJca
namespace Go.Proofs.YtmgopppgckgglaaGreatDoor
open Go.ChangeShapes Go.WideShapes Go.ChangeAt Go.RowKit Go.Deep Go.Joins
set_option linter.unusedVariables false

set_option maxRecDepth 40000 in
set_option maxHeartbeats 4000000 in
theorem wpList_load_row_w {P : Program} {ops : Array Oper} {rest : List Oper} {o : Oper} {a : Act} {w : World} {Q : Exit → Act → World → Prop} (hw : Region.wanted o (yielded ops a.tmps) = true) (ty : TypeId) (x : Operand) (ho : o.op = .load ty x)
    (g : Nat) (hx : a.eval x = .pointer (some ⟨g, 0, none⟩)) (t : TypeId) (cs : Array Value) (fr : Nat × Nat) (d : TypeDesc) (hg : w.heap[g]? = some (.cells cs t fr))
    (hu : P.underlying ty = some d) (hd : (match d with | .struct _ | .array _ _ => true | _ => false) = true) (hi : (P.info? ty).map (·.size) = some cs.size)
    (h : wpList P ops Q rest (a.put o.dst (.agg cs)) w) : wpList P ops Q (o :: rest) a w :=
  wpList_step fun _ hK => by
    simp only [hw, if_true]
    exact wp_load_row ty x ho g hx t cs fr d hg hu hd hi (hK _ _ h)
theorem otr_zero {lo : Nat} {w : World} (h : lo ≤ w.heap.size) : OTR lo w tz az :=
  ⟨(kt_zero lo w.heap.size w).tm, ⟨lo, lo, lo, Nat.le_refl _, Nat.le_refl _, h, Nat.le_refl _, ⟨fun g => absurd g (Nat.lt_irrefl 0), fun _ _ _ i hi => absurd hi (Nat.not_lt_zero i), fun _ _ _ g => absurd g (Nat.lt_irrefl 0)⟩, fun g => absurd g (Nat.lt_irrefl 0), fun g => absurd g (Nat.lt_irrefl 0), fun g => absurd g (Nat.lt_irrefl 0)⟩, tw_zero, ts_zero, Nat.le_refl _, Nat.le_refl _⟩
theorem res_isw {W : World} {B : Nat} {cs : Array Value} {b : Bool} {tmps : Array Value} (h : W.heap[B]? = some (.cells cs 33 (0, 0))) (hl : cs.size = 19) (ht : tmps[6]? = some (.pointer (some ⟨B, 0, none⟩))) (hq : tmps[7]? = some (.bool b)) : (results Tryz.f15 tmps).run Tryz.prog W = .ok (.tuple #[.agg cs, .bool b]) W := by
  have hld : (loadVar 33 ⟨B, 0, none⟩).run Tryz.prog W = .ok (.agg cs) W := run_loadVar_row (P := Tryz.prog) W B 33 33 cs (0, 0) _ h Tryz.underlying33 rfl (by rw [hl]; kernel_rfl)
  unfold results
  rw [Tryz.results15]
  simp [ht, hq, asAddr, hld]
set_option maxRecDepth 40000 in
set_option maxHeartbeats 16000000 in
theorem impl_split (t : Tb) (a : Ad) (x f : Int) (w : World) (hm : TM 0 w t a) (hw : TW t a) (hs : TS a) (he : TabE w) (hcp : a.pn ≤ a.pc) (hcs : a.sn ≤ a.sc) (hf : -9223372036854775808 ≤ f ∧ f ≤ 9223372036854775807) :
    Calls Tryz.prog 15 #[tbV t a, .int .i64 x, .int .i64 f] w fun e w' => ∃ R ar q, e = .returned (.tuple #[tbV R ar, .bool q]) ∧ SpA t x f R q ∧ Below w.heap.size w w' ∧ OTR w.heap.size w' R ar := by
  obtain ⟨q, hq⟩ := told (Sd t)
  have HB : Hid (Below w.heap.size w ((w.alloc (.cells (tbA t a) 33)).alloc (.cells #[.int .i64 0, .int .i64 0, .int .i64 0, .int .i64 0, .int .i64 0, .int .i64 0, .int .i64 0, .int .i64 0, .int .i64 0, .int .i64 0, .int .i64 0, .int .i64 0, .int .i64 0, .int .i64 0, .int .i64 0, .slice none 0 0, .slice none 0 0, .slice none 0 0, .slice none 0 0] 33))) := ((Below.refl _ _).alloc (Nat.le_refl _) _).alloc (by simp) _
  have HX : Hid (TBx ((w.alloc (.cells (tbA t a) 33)).alloc (.cells #[.int .i64 0, .int .i64 0, .int .i64 0, .int .i64 0, .int .i64 0, .int .i64 0, .int .i64 0, .int .i64 0, .int .i64 0, .int .i64 0, .int .i64 0, .int .i64 0, .int .i64 0, .int .i64 0, .int .i64 0, .slice none 0 0, .slice none 0 0, .slice none 0 0, .slice none 0 0] 33)) w.heap.size t a) := (TBx.new w t a _ rfl).below ((Below.refl _ _).alloc (Nat.le_refl _) _)
  have HR : Hid (((w.alloc (.cells (tbA t a) 33)).alloc (.cells #[.int .i64 0, .int .i64 0, .int .i64 0, .int .i64 0, .int .i64 0, .int .i64 0, .int .i64 0, .int .i64 0, .int .i64 0, .int .i64 0, .int .i64 0, .int .i64 0, .int .i64 0, .int .i64 0, .int .i64 0, .slice none 0 0, .slice none 0 0, .slice none 0 0, .slice none 0 0] 33)).heap[w.heap.size + 1]? = some (.cells #[.int .i64 0, .int .i64 0, .int .i64 0, .int .i64 0, .int .i64 0, .int .i64 0, .int .i64 0, .int .i64 0, .int .i64 0, .int .i64 0, .int .i64 0, .int .i64 0, .int .i64 0, .int .i64 0, .int .i64 0, .slice none 0 0, .slice none 0 0, .slice none 0 0, .slice none 0 0] 33 (0, 0))) := new_row (w.alloc (.cells (tbA t a) 33)) _ _ _ (by simp)
  have HS : Hid (∀ X, Below w.heap.size w X → Calls Tryz.prog 11 #[tbV t a] X fun e w' => e = .returned (.bool q) ∧ Below X.heap.size X w') := fun X hX => impl_sound t a q X (hm.below hX) hw hs (he.below hX) hcp hq
  have HMW : Hid (∀ X, Below w.heap.size w X → TM 0 X t a) := fun X hX => hm.below hX
  have HC : Hid (TW t a ∧ TS a ∧ a.sn ≤ a.sc) := ⟨hw, hs, hcs⟩
  have HQ : Hid (q = true ↔ Sd t) := hq
  have HF : Hid (-9223372036854775808 ≤ f ∧ f ≤ 9223372036854775807) := hf
  clear hq hm hw hs he hcp hcs hf
  go_enter Tryz.func15, Tryz.ntmps15
  go_wp2_with (first | (refine wpList_load_row rfl 33 (.tmp 3) rfl w.heap.size rfl 33 (tbA t a) (0, 0) _ HX.out Tryz.underlying33 rfl (by kernel_rfl) ?_) | (refine wpList_load_row_w (by rfl) 33 (.tmp 3) rfl w.heap.size rfl 33 (tbA t a) (0, 0) _ HX.out Tryz.underlying33 rfl (by kernel_rfl) ?_) | fail)
  revert HB HX HR
  generalize ((w.alloc (.cells (tbA t a) 33)).alloc (.cells #[.int .i64 0, .int .i64 0, .int .i64 0, .int .i64 0, .int .i64 0, .int .i64 0, .int .i64 0, .int .i64 0, .int .i64 0, .int .i64 0, .int .i64 0, .int .i64 0, .int .i64 0, .int .i64 0, .int .i64 0, .slice none 0 0, .slice none 0 0, .slice none 0 0, .slice none 0 0] 33)) = WA
  intro HB HX HR
  refine Calls.mono (HS.out _ HB.out) ?_
  rintro e w9 ⟨rfl, hb9⟩
  replace HR : Hid (w9.heap[w.heap.size + 1]? = some (.cells #[.int .i64 0, .int .i64 0, .int .i64 0, .int .i64 0, .int .i64 0, .int .i64 0, .int .i64 0, .int .i64 0, .int .i64 0, .int .i64 0, .int .i64 0, .int .i64 0, .int .i64 0, .int .i64 0, .int .i64 0, .slice none 0 0, .slice none 0 0, .slice none 0 0, .slice none 0 0] 33 (0, 0))) := row_below HR.out hb9
  replace HX : Hid (TBx w9 w.heap.size t a) := HX.out.below hb9
  replace HB : Hid (Below w.heap.size w w9) := HB.out.trans (hb9.mono HB.out.size)
  clear hb9
  cases q
  · have HNO : Hid (¬ CanS t x f) := fun h => absurd (HQ.out.2 h.1) (by simp)
    clear HS HC
    go_wp2_with (first | (refine wpList_load_row rfl 33 (.tmp 3) rfl w.heap.size rfl 33 (tbA t a) (0, 0) _ HX.out Tryz.underlying33 rfl (by kernel_rfl) ?_) | (refine wpList_load_row_w (by rfl) 33 (.tmp 3) rfl w.heap.size rfl 33 (tbA t a) (0, 0) _ HX.out Tryz.underlying33 rfl (by kernel_rfl) ?_) | (refine wpList_store_row rfl 33 (.tmp 6) (.tmp 24) rfl (w.heap.size + 1) #[.int .i64 0, .int .i64 0, .int .i64 0, .int .i64 0, .int .i64 0, .int .i64 0, .int .i64 0, .int .i64 0, .int .i64 0, .int .i64 0, .int .i64 0, .int .i64 0, .int .i64 0, .int .i64 0, .int .i64 0, .slice none 0 0, .slice none 0 0, .slice none 0 0, .slice none 0 0] rfl rfl 33 #[.int .i64 0, .int .i64 0, .int .i64 0, .int .i64 0, .int .i64 0, .int .i64 0, .int .i64 0, .int .i64 0, .int .i64 0, .int .i64 0, .int .i64 0, .int .i64 0, .int .i64 0, .int .i64 0, .int .i64 0, .slice none 0 0, .slice none 0 0, .slice none 0 0, .slice none 0 0] HR.out (by kernel_rfl) rfl (by simp [Value.oneCell']) ?_) | fail)
    refine bodyPost_ret (v := .tuple #[tbV tz az, .bool false]) (res_isw (setRow_heap _ _ _ _ _ _ HR.out) rfl rfl rfl) rfl ⟨tz, az, false, rfl, Or.inl ⟨HNO.out, rfl, rfl⟩, below_setRow HB.out (Nat.le_succ _) _, otr_zero (by show w.heap.size ≤ (World.setRow _ _ _).heap.size; have := HB.out.size; simpa using this)⟩
  have HSD : Hid (Sd t) := HQ.out.1 rfl
  obtain ⟨q2, hq2⟩ := told (0 ≤ x ∧ x < (a.sn : Int))
  have HQ2 : Hid (q2 = true ↔ (0 ≤ x ∧ x < (a.sn : Int))) := hq2
  clear hq2 HQ HS
  go_wp2_with (first | (refine wpList_load_row rfl 33 (.tmp 3) rfl w.heap.size rfl 33 (tbA t a) (0, 0) _ HX.out Tryz.underlying33 rfl (by kernel_rfl) ?_) | (refine wpList_load_row_w (by rfl) 33 (.tmp 3) rfl w.heap.size rfl 33 (tbA t a) (0, 0) _ HX.out Tryz.underlying33 rfl (by kernel_rfl) ?_) | fail)
  refine Calls.mono (has_slot t a x q2 _ HC.out.1.sb HQ2.out) ?_
  rintro e w9b ⟨rfl, hb9⟩
  replace HR : Hid (w9b.heap[w.heap.size + 1]? = some (.cells #[.int .i64 0, .int .i64 0, .int .i64 0, .int .i64 0, .int .i64 0, .int .i64 0, .int .i64 0, .int .i64 0, .int .i64 0, .int .i64 0, .int .i64 0, .int .i64 0, .int .i64 0, .int .i64 0, .int .i64 0, .slice none 0 0, .slice none 0 0, .slice none 0 0, .slice none 0 0] 33 (0, 0))) := row_below HR.out hb9
  replace HX : Hid (TBx w9b w.heap.size t a) := HX.out.below hb9
  replace HB : Hid (Below w.heap.size w w9b) := HB.out.trans (hb9.mono HB.out.size)
  clear hb9
  cases q2
  · have HNO : Hid (¬ CanS t x f) := fun h => absurd (HQ2.out.2 (by have := h.2.1; rw [HC.out.1.sl] at this; exact this)) (by simp)
    have HS : True := trivial
    clear HS HC
    go_wp2_with (first | (refine wpList_load_row rfl 33 (.tmp 3) rfl w.heap.size rfl 33 (tbA t a) (0, 0) _ HX.out Tryz.underlying33 rfl (by kernel_rfl) ?_) | (refine wpList_load_row_w (by rfl) 33 (.tmp 3) rfl w.heap.size rfl 33 (tbA t a) (0, 0) _ HX.out Tryz.underlying33 rfl (by kernel_rfl) ?_) | (refine wpList_store_row rfl 33 (.tmp 6) (.tmp 24) rfl (w.heap.size + 1) #[.int .i64 0, .int .i64 0, .int .i64 0, .int .i64 0, .int .i64 0, .int .i64 0, .int .i64 0, .int .i64 0, .int .i64 0, .int .i64 0, .int .i64 0, .int .i64 0, .int .i64 0, .int .i64 0, .int .i64 0, .slice none 0 0, .slice none 0 0, .slice none 0 0, .slice none 0 0] rfl rfl 33 #[.int .i64 0, .int .i64 0, .int .i64 0, .int .i64 0, .int .i64 0, .int .i64 0, .int .i64 0, .int .i64 0, .int .i64 0, .int .i64 0, .int .i64 0, .int .i64 0, .int .i64 0, .int .i64 0, .int .i64 0, .slice none 0 0, .slice none 0 0, .slice none 0 0, .slice none 0 0] HR.out (by kernel_rfl) rfl (by simp [Value.oneCell']) ?_) | fail)
    refine bodyPost_ret (v := .tuple #[tbV tz az, .bool false]) (res_isw (setRow_heap _ _ _ _ _ _ HR.out) rfl rfl rfl) rfl ⟨tz, az, false, rfl, Or.inl ⟨HNO.out, rfl, rfl⟩, below_setRow HB.out (Nat.le_succ _) _, otr_zero (by show w.heap.size ≤ (World.setRow _ _ _).heap.size; have := HB.out.size; simpa using this)⟩
  have hx := HQ2.out.1 rfl
  obtain ⟨k, rfl⟩ : ∃ k : Nat, x = (k : Int) := ⟨x.toNat, by omega⟩
  have HKL : Hid (k < t.ss.length) := by have := HC.out.1.sl; show _ < _; omega
  obtain ⟨q3, hq3⟩ := told (CanS t (k : Int) f)
  have HQ3 : Hid (q3 = true ↔ CanS t (k : Int) f) := hq3
  clear hq3 HQ2 hx
  go_wp2_with (first | (refine wpList_load_row rfl 33 (.tmp 3) rfl w.heap.size rfl 33 (tbA t a) (0, 0) _ HX.out Tryz.underlying33 rfl (by kernel_rfl) ?_) | (refine wpList_load_row_w (by rfl) 33 (.tmp 3) rfl w.heap.size rfl 33 (tbA t a) (0, 0) _ HX.out Tryz.underlying33 rfl (by kernel_rfl) ?_) | fail)
  refine Calls.mono (can_split t a k f q3 _ (HMW.out _ HB.out) HC.out.1 HSD.out HKL.out HF.out HQ3.out) ?_
  rintro e w9c ⟨rfl, hb9⟩
  replace HR : Hid (w9c.heap[w.heap.size + 1]? = some (.cells #[.int .i64 0, .int .i64 0, .int .i64 0, .int .i64 0, .int .i64 0, .int .i64 0, .int .i64 0, .int .i64 0, .int .i64 0, .int .i64 0, .int .i64 0, .int .i64 0, .int .i64 0, .int .i64 0, .int .i64 0, .slice none 0 0, .slice none 0 0, .slice none 0 0, .slice none 0 0] 33 (0, 0))) := row_below HR.out hb9
  replace HX : Hid (TBx w9c w.heap.size t a) := HX.out.below hb9
  replace HB : Hid (Below w.heap.size w w9c) := HB.out.trans (hb9.mono HB.out.size)
  clear hb9
  cases q3
  · have HNO : Hid (¬ CanS t (k : Int) f) := fun h => absurd (HQ3.out.2 h) (by simp)
    have HS : True := trivial
    clear HS HC
    go_wp2_with (first | (refine wpList_load_row rfl 33 (.tmp 3) rfl w.heap.size rfl 33 (tbA t a) (0, 0) _ HX.out Tryz.underlying33 rfl (by kernel_rfl) ?_) | (refine wpList_load_row_w (by rfl) 33 (.tmp 3) rfl w.heap.size rfl 33 (tbA t a) (0, 0) _ HX.out Tryz.underlying33 rfl (by kernel_rfl) ?_) | (refine wpList_store_row rfl 33 (.tmp 6) (.tmp 24) rfl (w.heap.size + 1) #[.int .i64 0, .int .i64 0, .int .i64 0, .int .i64 0, .int .i64 0, .int .i64 0, .int .i64 0, .int .i64 0, .int .i64 0, .int .i64 0, .int .i64 0, .int .i64 0, .int .i64 0, .int .i64 0, .int .i64 0, .slice none 0 0, .slice none 0 0, .slice none 0 0, .slice none 0 0] rfl rfl 33 #[.int .i64 0, .int .i64 0, .int .i64 0, .int .i64 0, .int .i64 0, .int .i64 0, .int .i64 0, .int .i64 0, .int .i64 0, .int .i64 0, .int .i64 0, .int .i64 0, .int .i64 0, .int .i64 0, .int .i64 0, .slice none 0 0, .slice none 0 0, .slice none 0 0, .slice none 0 0] HR.out (by kernel_rfl) rfl (by simp [Value.oneCell']) ?_) | fail)
    refine bodyPost_ret (v := .tuple #[tbV tz az, .bool false]) (res_isw (setRow_heap _ _ _ _ _ _ HR.out) rfl rfl rfl) rfl ⟨tz, az, false, rfl, Or.inl ⟨HNO.out, rfl, rfl⟩, below_setRow HB.out (Nat.le_succ _) _, otr_zero (by show w.heap.size ≤ (World.setRow _ _ _).heap.size; have := HB.out.size; simpa using this)⟩
  have HCN : Hid (CanS t (k : Int) f) := HQ3.out.1 rfl
  clear HQ3 HSD HKL
  go_wp2_with (first | (refine wpList_load_row rfl 33 (.tmp 3) rfl w.heap.size rfl 33 (tbA t a) (0, 0) _ HX.out Tryz.underlying33 rfl (by kernel_rfl) ?_) | (refine wpList_load_row_w (by rfl) 33 (.tmp 3) rfl w.heap.size rfl 33 (tbA t a) (0, 0) _ HX.out Tryz.underlying33 rfl (by kernel_rfl) ?_) | fail)
  refine Calls.mono (impl_sp t a k f _ (HMW.out _ HB.out) HC.out.1 HC.out.2.1 HC.out.2.2 HCN.out) ?_
  rintro e w4 ⟨a4, rfl, hb4, hm4, hw4, hs4, hc4, -⟩
  have HR4 : Hid (w4.heap[w.heap.size + 1]? = some (.cells #[.int .i64 0, .int .i64 0, .int .i64 0, .int .i64 0, .int .i64 0, .int .i64 0, .int .i64 0, .int .i64 0, .int .i64 0, .int .i64 0, .int .i64 0, .int .i64 0, .int .i64 0, .int .i64 0, .int .i64 0, .slice none 0 0, .slice none 0 0, .slice none 0 0, .slice none 0 0] 33 (0, 0))) := row_below HR.out hb4
  have HB4 : Hid (Below w.heap.size w w4) := HB.out.trans (hb4.mono HB.out.size)
  clear HB HX HR hb4
  go_wp2_with fail
  refine Calls.mono (impl_cptab _ a4 w4 hm4 hw4 hs4) ?_
  rintro e w5 ⟨a5, rfl, hb5, ho5, _⟩
  have HR5 : Hid (w5.heap[w.heap.size + 1]? = some (.cells #[.int .i64 0, .int .i64 0, .int .i64 0, .int .i64 0, .int .i64 0, .int .i64 0, .int .i64 0, .int .i64 0, .int .i64 0, .int .i64 0, .int .i64 0, .int .i64 0, .int .i64 0, .int .i64 0, .int .i64 0, .slice none 0 0, .slice none 0 0, .slice none 0 0, .slice none 0 0] 33 (0, 0))) := row_below HR4.out hb5
  have HB5 : Hid (Below w.heap.size w w5) := HB4.out.trans (hb5.mono HB4.out.size)
  have HRF : Hid ((w5.setRow (w.heap.size + 1) (tbA t a5)).heap[w.heap.size + 1]? = some (.cells (tbA t a5) 33 (0, 0))) := setRow_heap _ _ _ _ _ _ HR5.out
  have HBF : Hid (Below w.heap.size w (w5.setRow (w.heap.size + 1) (tbA t a5))) := below_setRow HB5.out (Nat.le_succ _) _
  have hlt : w.heap.size + 1 < w4.heap.size := (Array.getElem?_eq_some_iff.1 HR4.out).1
  have HOF : Hid (OTR w.heap.size (w5.setRow (w.heap.size + 1) (tbA t a5)) { t with ss := splL t.ss k f } a5) := by
    have h := ho5.setRow (cs := tbA t a5) hlt
    exact ⟨h.m, h.o.wide (Nat.le_of_lt (Nat.lt_of_succ_lt hlt)) (Nat.le_refl _), h.w, h.s, h.cp, h.cs⟩
  clear hb5 ho5 hm4 hw4 hs4 hc4 HR4 HB4 hlt HB5
  go_wp2_with (first | (refine wpList_store_row rfl 33 (.tmp 6) (.tmp 29) rfl (w.heap.size + 1) (tbA t a5) rfl rfl 33 #[.int .i64 0, .int .i64 0, .int .i64 0, .int .i64 0, .int .i64 0, .int .i64 0, .int .i64 0, .int .i64 0, .int .i64 0, .int .i64 0, .int .i64 0, .int .i64 0, .int .i64 0, .int .i64 0, .int .i64 0, .slice none 0 0, .slice none 0 0, .slice none 0 0, .slice none 0 0] HR5.out (by kernel_rfl) rfl (by simp [Value.oneCell']) ?_) | fail)
  revert HRF HBF HOF
  generalize w5.setRow (w.heap.size + 1) (tbA t a5) = WF
  intro HRF HBF HOF
  go_wp2
  refine bodyPost_ret (v := .tuple #[tbV t a5, .bool true]) (res_isw HRF.out rfl rfl rfl) rfl ⟨{ t with ss := splL t.ss k f }, a5, true, rfl, Or.inr ⟨HCN.out, by rw [Int.toNat_natCast], rfl⟩, HBF.out, HOF.out⟩
end Go.Proofs.YtmgopppgckgglaaGreatDoor
