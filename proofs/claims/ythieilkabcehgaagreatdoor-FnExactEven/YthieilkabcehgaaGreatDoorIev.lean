
/-
  Slots cut again and again, by the program: whole. Conditions: the lists lie in memory; the numbers fit; the table opExtras lies as its text lays it.
-/
import Derived.Test.YthieilkabcehgaaGreatDoorBas
import Derived.Test.YthieilkabcehgaaGreatDoorIsw
import Derived.Test.YthieilkabcehgaaGreatDoorEvp
import Derived.Test.YthieilkabcehgaaGreatDoorRl3
import Derived.Test.YthieilkabcehgaaGreatDoorClo6
namespace Go.Proofs.YthieilkabcehgaaGreatDoor
open Go.ChangeShapes Go.WideShapes Go.ChangeAt Go.RowKit Go.Deep Go.Joins
set_option linter.unusedVariables false

theorem res_iev {W : World} {B : Nat} {cs : Array Value} {b : Bool} {tmps : Array Value} (h : W.heap[B]? = some (.cells cs 39 (0, 0))) (hl : cs.size = 19) (ht : tmps[6]? = some (.pointer (some ⟨B, 0, none⟩))) (hq : tmps[7]? = some (.bool b)) : (results Tryz.f25 tmps).run Tryz.prog W = .ok (.tuple #[.agg cs, .bool b]) W := by
  have hld : (loadVar 39 ⟨B, 0, none⟩).run Tryz.prog W = .ok (.agg cs) W := run_loadVar_row (P := Tryz.prog) W B 39 39 cs (0, 0) _ h Tryz.underlying39 rfl (by rw [hl]; kernel_rfl)
  unfold results
  rw [Tryz.results25]
  simp [ht, hq, asAddr, hld]
/-- Slots that lie apart from two blocks. -/
def SF (B : Nat) (w : World) (A : Option Addr) (n : Nat) (S : List slT) : Prop := GSeg 3 w A n (slX S) ∧ ∀ b o, 0 < n → A = some ⟨b, o, none⟩ → b < B ∨ B + 1 < b
theorem SF.below {B n : Nat} {w w' : World} {A : Option Addr} {S : List slT} (h : SF B w A n S) (hb : Below w.heap.size w w') : SF B w' A n S := ⟨h.1.below hb, h.2⟩
theorem sf_first {B n : Nat} {w w' : World} {A : Option Addr} {S : List slT} (h : GSeg 3 w A n (slX S)) (hb : Below w.heap.size w w') (hB : B = w.heap.size) : SF B w' A n S := ⟨h.below hb, fun b o h0 e => by
  obtain ⟨b', o', e', hlt, _⟩ := h h0
  rw [e] at e'
  injection e' with e'
  injection e' with e1 _
  omega⟩
theorem sf_new {B lo n : Nat} {w : World} {A : Option Addr} {S : List slT} (cs : Array Value) (h : GSegL 3 lo w A n (slX S)) (hB : B + 1 < lo) : SF B (w.setRow B cs) A n S := ⟨(h.setRow cs (by omega)).seg, fun b o h0 e => by
  obtain ⟨b', o', e', hlt, _⟩ := h h0
  rw [e] at e'
  injection e' with e'
  injection e' with e1 _
  omega⟩
set_option maxRecDepth 40000 in
set_option maxHeartbeats 16000000 in
theorem impl_even (t : Tb) (a : Ad) (x f : Int) (w : World) (hm : TM 0 w t a) (hw : TW t a) (hs : TS a) (he : TabE w) (hcp : a.pn ≤ a.pc) (hcs : a.sn ≤ a.sc) (hf : -9223372036854775808 ≤ f ∧ f ≤ 9223372036854775807) :
    Calls Tryz.prog 25 #[tbV t a, .int .i64 x, .int .i64 f] w fun e w' => ∃ R ar q, e = .returned (.tuple #[tbV R ar, .bool q]) ∧ EvA t x f R q ∧ Below w.heap.size w w' ∧ OTR w.heap.size w' R ar := by
  obtain ⟨q, hq⟩ := told (Sd t)
  have HB : Hid (Below w.heap.size w ((w.alloc (.cells (tbA t a) 39)).alloc (.cells #[.int .i64 0, .int .i64 0, .int .i64 0, .int .i64 0, .int .i64 0, .int .i64 0, .int .i64 0, .int .i64 0, .int .i64 0, .int .i64 0, .int .i64 0, .int .i64 0, .int .i64 0, .int .i64 0, .int .i64 0, .slice none 0 0, .slice none 0 0, .slice none 0 0, .slice none 0 0] 39))) := ((Below.refl _ _).alloc (Nat.le_refl _) _).alloc (by simp) _
  have HX : Hid (TBx ((w.alloc (.cells (tbA t a) 39)).alloc (.cells #[.int .i64 0, .int .i64 0, .int .i64 0, .int .i64 0, .int .i64 0, .int .i64 0, .int .i64 0, .int .i64 0, .int .i64 0, .int .i64 0, .int .i64 0, .int .i64 0, .int .i64 0, .int .i64 0, .int .i64 0, .slice none 0 0, .slice none 0 0, .slice none 0 0, .slice none 0 0] 39)) w.heap.size t a) := (TBx.new w t a _ rfl).below ((Below.refl _ _).alloc (Nat.le_refl _) _)
  have HR : Hid (((w.alloc (.cells (tbA t a) 39)).alloc (.cells #[.int .i64 0, .int .i64 0, .int .i64 0, .int .i64 0, .int .i64 0, .int .i64 0, .int .i64 0, .int .i64 0, .int .i64 0, .int .i64 0, .int .i64 0, .int .i64 0, .int .i64 0, .int .i64 0, .int .i64 0, .slice none 0 0, .slice none 0 0, .slice none 0 0, .slice none 0 0] 39)).heap[w.heap.size + 1]? = some (.cells #[.int .i64 0, .int .i64 0, .int .i64 0, .int .i64 0, .int .i64 0, .int .i64 0, .int .i64 0, .int .i64 0, .int .i64 0, .int .i64 0, .int .i64 0, .int .i64 0, .int .i64 0, .int .i64 0, .int .i64 0, .slice none 0 0, .slice none 0 0, .slice none 0 0, .slice none 0 0] 39 (0, 0))) := new_row (w.alloc (.cells (tbA t a) 39)) _ _ _ (by simp)
  have HS : Hid (∀ X, Below w.heap.size w X → Calls Tryz.prog 38 #[tbV t a] X fun e w' => e = .returned (.bool q) ∧ Below X.heap.size X w') := fun X hX => impl_sound t a q X (hm.below hX) hw hs (he.below hX) hcp hq
  have HMW : Hid (∀ X, Below w.heap.size w X → TM 0 X t a) := fun X hX => hm.below hX
  have HSF0 : Hid (∀ X, Below w.heap.size w X → SF w.heap.size X a.sa a.sn t.ss) := fun X hX => sf_first hm.s.seg hX rfl
  have HC : Hid (TW t a ∧ TS a ∧ a.sn ≤ a.sc) := ⟨hw, hs, hcs⟩
  have HQ : Hid (q = true ↔ Sd t) := hq
  have HF : Hid (-9223372036854775808 ≤ f ∧ f ≤ 9223372036854775807) := hf
  clear hq hm hw hs he hcp hcs hf
  go_enter Tryz.func25, Tryz.ntmps25
  go_wp2_with (first | (refine wpList_load_row rfl 39 (.tmp 3) rfl w.heap.size rfl 39 (tbA t a) (0, 0) _ HX.out Tryz.underlying39 rfl (by kernel_rfl) ?_) | (refine wpList_load_row_w (by rfl) 39 (.tmp 3) rfl w.heap.size rfl 39 (tbA t a) (0, 0) _ HX.out Tryz.underlying39 rfl (by kernel_rfl) ?_) | fail)
  revert HB HX HR
  generalize ((w.alloc (.cells (tbA t a) 39)).alloc (.cells #[.int .i64 0, .int .i64 0, .int .i64 0, .int .i64 0, .int .i64 0, .int .i64 0, .int .i64 0, .int .i64 0, .int .i64 0, .int .i64 0, .int .i64 0, .int .i64 0, .int .i64 0, .int .i64 0, .int .i64 0, .slice none 0 0, .slice none 0 0, .slice none 0 0, .slice none 0 0] 39)) = WA
  intro HB HX HR
  refine Calls.mono (HS.out _ HB.out) ?_
  rintro e w9 ⟨rfl, hb9⟩
  replace HR : Hid (w9.heap[w.heap.size + 1]? = some (.cells #[.int .i64 0, .int .i64 0, .int .i64 0, .int .i64 0, .int .i64 0, .int .i64 0, .int .i64 0, .int .i64 0, .int .i64 0, .int .i64 0, .int .i64 0, .int .i64 0, .int .i64 0, .int .i64 0, .int .i64 0, .slice none 0 0, .slice none 0 0, .slice none 0 0, .slice none 0 0] 39 (0, 0))) := row_below HR.out hb9
  replace HX : Hid (TBx w9 w.heap.size t a) := HX.out.below hb9
  replace HB : Hid (Below w.heap.size w w9) := HB.out.trans (hb9.mono HB.out.size)
  clear hb9
  cases q
  · have HNO : Hid (¬ (Sd t ∧ 0 ≤ x ∧ x < (t.ps.length : Int))) := fun h => absurd (HQ.out.2 h.1) (by simp)
    clear HS HC HMW HSF0 HF
    go_wp2_with (first | (refine wpList_load_row rfl 39 (.tmp 3) rfl w.heap.size rfl 39 (tbA t a) (0, 0) _ HX.out Tryz.underlying39 rfl (by kernel_rfl) ?_) | (refine wpList_load_row_w (by rfl) 39 (.tmp 3) rfl w.heap.size rfl 39 (tbA t a) (0, 0) _ HX.out Tryz.underlying39 rfl (by kernel_rfl) ?_) | (refine wpList_store_row rfl 39 (.tmp 6) (.tmp 18) rfl (w.heap.size + 1) (#[.int .i64 0, .int .i64 0, .int .i64 0, .int .i64 0, .int .i64 0, .int .i64 0, .int .i64 0, .int .i64 0, .int .i64 0, .int .i64 0, .int .i64 0, .int .i64 0, .int .i64 0, .int .i64 0, .int .i64 0, .slice none 0 0, .slice none 0 0, .slice none 0 0, .slice none 0 0]) rfl rfl 39 (#[.int .i64 0, .int .i64 0, .int .i64 0, .int .i64 0, .int .i64 0, .int .i64 0, .int .i64 0, .int .i64 0, .int .i64 0, .int .i64 0, .int .i64 0, .int .i64 0, .int .i64 0, .int .i64 0, .int .i64 0, .slice none 0 0, .slice none 0 0, .slice none 0 0, .slice none 0 0]) HR.out (by kernel_rfl) rfl (by simp [Value.oneCell']) ?_) | fail)
    refine bodyPost_ret (v := .tuple #[tbV tz az, .bool false]) (res_iev (setRow_heap _ _ _ _ _ _ HR.out) rfl rfl rfl) rfl ⟨tz, az, false, rfl, Or.inl ⟨HNO.out, rfl, rfl⟩, below_setRow HB.out (Nat.le_succ _) _, otr_zero (by show w.heap.size ≤ (World.setRow _ _ _).heap.size; have := HB.out.size; simpa using this)⟩
  have HSD : Hid (Sd t) := HQ.out.1 rfl
  obtain ⟨q2, hq2⟩ := told (0 ≤ x ∧ x < (a.pn : Int))
  have HQ2 : Hid (q2 = true ↔ (0 ≤ x ∧ x < (a.pn : Int))) := hq2
  clear hq2 HQ HS
  go_wp2_with (first | (refine wpList_load_row rfl 39 (.tmp 3) rfl w.heap.size rfl 39 (tbA t a) (0, 0) _ HX.out Tryz.underlying39 rfl (by kernel_rfl) ?_) | (refine wpList_load_row_w (by rfl) 39 (.tmp 3) rfl w.heap.size rfl 39 (tbA t a) (0, 0) _ HX.out Tryz.underlying39 rfl (by kernel_rfl) ?_) | fail)
  refine Calls.mono (has_part t a x q2 _ HC.out.1.pb HQ2.out) ?_
  rintro e w9b ⟨rfl, hb9⟩
  replace HR : Hid (w9b.heap[w.heap.size + 1]? = some (.cells #[.int .i64 0, .int .i64 0, .int .i64 0, .int .i64 0, .int .i64 0, .int .i64 0, .int .i64 0, .int .i64 0, .int .i64 0, .int .i64 0, .int .i64 0, .int .i64 0, .int .i64 0, .int .i64 0, .int .i64 0, .slice none 0 0, .slice none 0 0, .slice none 0 0, .slice none 0 0] 39 (0, 0))) := row_below HR.out hb9
  replace HX : Hid (TBx w9b w.heap.size t a) := HX.out.below hb9
  replace HB : Hid (Below w.heap.size w w9b) := HB.out.trans (hb9.mono HB.out.size)
  clear hb9
  cases q2
  · have HNO : Hid (¬ (Sd t ∧ 0 ≤ x ∧ x < (t.ps.length : Int))) := fun h => absurd (HQ2.out.2 (by have := h.2; rw [HC.out.1.pl] at this; exact this)) (by simp)
    clear HC HMW HSF0 HF
    go_wp2_with (first | (refine wpList_load_row rfl 39 (.tmp 3) rfl w.heap.size rfl 39 (tbA t a) (0, 0) _ HX.out Tryz.underlying39 rfl (by kernel_rfl) ?_) | (refine wpList_load_row_w (by rfl) 39 (.tmp 3) rfl w.heap.size rfl 39 (tbA t a) (0, 0) _ HX.out Tryz.underlying39 rfl (by kernel_rfl) ?_) | (refine wpList_store_row rfl 39 (.tmp 6) (.tmp 18) rfl (w.heap.size + 1) (#[.int .i64 0, .int .i64 0, .int .i64 0, .int .i64 0, .int .i64 0, .int .i64 0, .int .i64 0, .int .i64 0, .int .i64 0, .int .i64 0, .int .i64 0, .int .i64 0, .int .i64 0, .int .i64 0, .int .i64 0, .slice none 0 0, .slice none 0 0, .slice none 0 0, .slice none 0 0]) rfl rfl 39 (#[.int .i64 0, .int .i64 0, .int .i64 0, .int .i64 0, .int .i64 0, .int .i64 0, .int .i64 0, .int .i64 0, .int .i64 0, .int .i64 0, .int .i64 0, .int .i64 0, .int .i64 0, .int .i64 0, .int .i64 0, .slice none 0 0, .slice none 0 0, .slice none 0 0, .slice none 0 0]) HR.out (by kernel_rfl) rfl (by simp [Value.oneCell']) ?_) | fail)
    refine bodyPost_ret (v := .tuple #[tbV tz az, .bool false]) (res_iev (setRow_heap _ _ _ _ _ _ HR.out) rfl rfl rfl) rfl ⟨tz, az, false, rfl, Or.inl ⟨HNO.out, rfl, rfl⟩, below_setRow HB.out (Nat.le_succ _) _, otr_zero (by show w.heap.size ≤ (World.setRow _ _ _).heap.size; have := HB.out.size; simpa using this)⟩
  have HYES : Hid (Sd t ∧ 0 ≤ x ∧ x < (t.ps.length : Int)) := ⟨HSD.out, by rw [HC.out.1.pl]; exact HQ2.out.1 rfl⟩
  have HLN0 : Hid (t.ss.length = a.sn ∧ a.sn ≤ a.sc) := ⟨HC.out.1.sl, HC.out.2.2⟩
  have HSFX : Hid (SF w.heap.size w9b a.sa a.sn t.ss) := HSF0.out _ HB.out
  clear HQ2 HSF0
  go_wp2_with fail
  go_loopw [19] (fun vi wr => ∃ (i : Nat) (S : List slT) (A : Option Addr) (n c : Nat), i ≤ 16 ∧ vi = .int .i64 (i : Int) ∧ Hid (S = evF t x f i) ∧ Hid (Below w.heap.size w wr) ∧ Hid (wr.heap[w.heap.size + 1]? = some (.cells #[.int .i64 0, .int .i64 0, .int .i64 0, .int .i64 0, .int .i64 0, .int .i64 0, .int .i64 0, .int .i64 0, .int .i64 0, .int .i64 0, .int .i64 0, .int .i64 0, .int .i64 0, .int .i64 0, .int .i64 0, .slice none 0 0, .slice none 0 0, .slice none 0 0, .slice none 0 0] 39 (0, 0))) ∧ Hid (TBx wr w.heap.size { t with ss := S } { a with sa := A, sn := n, sc := c }) ∧ Hid (SF w.heap.size wr A n S) ∧ Hid (S.length = n ∧ n ≤ c)) (fun vi _ => 16 - (intOf vi).toNat)
  case atStart => exact ⟨0, t.ss, a.sa, a.sn, a.sc, by omega, rfl, rfl, HB.out, HR.out, HX.out, HSFX.out, HLN0.out⟩
  case round =>
    clear HB HR HX HSFX HLN0
    obtain ⟨i, S, A, n, c, hi16, rfl, HS, HB, HR, HX, HSF, HLN⟩ := hrel
    have HG : Hid (SlG t S) := by
      have h := evF_ok HSD.out x f i
      rw [← HS.out] at h
      exact h
    have HSX : Hid (Sd { t with ss := S }) := sd_slots HSD.out HG.out
    have HMX : Hid (TM 0 wr { t with ss := S } { a with sa := A, sn := n, sc := c }) := ⟨(HMW.out _ HB.out).p, (HMW.out _ HB.out).d, (HMW.out _ HB.out).c, HSF.out.1.low⟩
    have HN16 : Hid (n ≤ 16) := by have := HG.out.n2; have := HLN.out.1; show _ ≤ _; omega
    have HTX : Hid (TW { t with ss := S } { a with sa := A, sn := n, sc := c }) := by
      have h := HC.out.1
      have hz := HN16.out
      have ht := sd_tm HSX.out
      have hl := HLN.out.1
      refine ⟨h.pl, h.dl, h.cl, hl, h.pb, h.db, h.cb, by show n ≤ _; omega, h.wb, h.wf, fun j hj => ?_⟩
      have hj2 : j < S.length := by have hj3 : j < n := hj; omega
      have h1 := ht.st j hj2
      have h2 := ht.en j hj2
      have h3 := ht.ln j hj2
      have h4 := ht.maj2
      have h5 := ht.pad1
      have h6 := ht.grd1
      simp only at h1 h2 h3 h4 h5 h6 ⊢
      exact ⟨by omega, by omega⟩
    have HSS : Hid (TS { a with sa := A, sn := n, sc := c }) := ⟨HC.out.2.1.p, HC.out.2.1.d, HC.out.2.1.c, by have := HN16.out; show n ≤ _; omega, HC.out.2.1.w⟩
    by_cases hlt : i < 16
    rotate_left
    · have hni : ¬ ((i : Int) < (16 : Int)) := by omega
      obtain rfl : i = 16 := by omega
      go_wp2_with (first | (refine wpList_load_row rfl 39 (.tmp 3) rfl w.heap.size rfl 39 (tbA t { a with sa := A, sn := n, sc := c }) (0, 0) _ HX.out Tryz.underlying39 rfl (by kernel_rfl) ?_) | (refine wpList_load_row_w (by rfl) 39 (.tmp 3) rfl w.heap.size rfl 39 (tbA t { a with sa := A, sn := n, sc := c }) (0, 0) _ HX.out Tryz.underlying39 rfl (by kernel_rfl) ?_) | fail)
      refine Calls.mono (impl_cptab { t with ss := S } { a with sa := A, sn := n, sc := c } wr HMX.out HTX.out HSS.out) ?_
      rintro e w5 ⟨a5, rfl, hb5, ho5, _⟩
      have HR5 : Hid (w5.heap[w.heap.size + 1]? = some (.cells #[.int .i64 0, .int .i64 0, .int .i64 0, .int .i64 0, .int .i64 0, .int .i64 0, .int .i64 0, .int .i64 0, .int .i64 0, .int .i64 0, .int .i64 0, .int .i64 0, .int .i64 0, .int .i64 0, .int .i64 0, .slice none 0 0, .slice none 0 0, .slice none 0 0, .slice none 0 0] 39 (0, 0))) := row_below HR.out hb5
      have HB5 : Hid (Below w.heap.size w w5) := HB.out.trans (hb5.mono HB.out.size)
      have HRF : Hid ((w5.setRow (w.heap.size + 1) (tbA t a5)).heap[w.heap.size + 1]? = some (.cells (tbA t a5) 39 (0, 0))) := setRow_heap _ _ _ _ _ _ HR5.out
      have HBF : Hid (Below w.heap.size w (w5.setRow (w.heap.size + 1) (tbA t a5))) := below_setRow HB5.out (Nat.le_succ _) _
      have hlt2 : w.heap.size + 1 < wr.heap.size := (Array.getElem?_eq_some_iff.1 HR.out).1
      have HOF : Hid (OTR w.heap.size (w5.setRow (w.heap.size + 1) (tbA t a5)) { t with ss := S } a5) := by
        have h := ho5.setRow (cs := tbA t a5) hlt2
        exact ⟨h.m, h.o.wide (Nat.le_of_lt (Nat.lt_of_succ_lt hlt2)) (Nat.le_refl _), h.w, h.s, h.cp, h.cs⟩
      clear hb5 ho5 HMX HTX HSS HX HSF HB HB5 hlt2 HSX HG
      go_wp2_with (first | (refine wpList_store_row rfl 39 (.tmp 6) (.tmp 47) rfl (w.heap.size + 1) (tbA t a5) rfl rfl 39 (#[.int .i64 0, .int .i64 0, .int .i64 0, .int .i64 0, .int .i64 0, .int .i64 0, .int .i64 0, .int .i64 0, .int .i64 0, .int .i64 0, .int .i64 0, .int .i64 0, .int .i64 0, .int .i64 0, .int .i64 0, .slice none 0 0, .slice none 0 0, .slice none 0 0, .slice none 0 0]) HR5.out (by kernel_rfl) rfl (by simp [Value.oneCell']) ?_) | fail)
      exact bodyPost_ret (v := .tuple #[tbV { t with ss := S } a5, .bool true]) (res_iev HRF.out rfl rfl rfl) rfl ⟨{ t with ss := S }, a5, true, rfl, Or.inr ⟨HYES.out, by rw [HS.out], rfl⟩, HBF.out, HOF.out⟩
    have hlt' : (i : Int) < (16 : Int) := by omega
    obtain ⟨q1, hq1⟩ := told (0 ≤ (i : Int) ∧ (i : Int) < (n : Int))
    have HQ1 : Hid (q1 = true ↔ (0 ≤ (i : Int) ∧ (i : Int) < (n : Int))) := hq1
    clear hq1
    go_wp2_with (first | (refine wpList_load_row rfl 39 (.tmp 3) rfl w.heap.size rfl 39 (tbA t { a with sa := A, sn := n, sc := c }) (0, 0) _ HX.out Tryz.underlying39 rfl (by kernel_rfl) ?_) | (refine wpList_load_row_w (by rfl) 39 (.tmp 3) rfl w.heap.size rfl 39 (tbA t { a with sa := A, sn := n, sc := c }) (0, 0) _ HX.out Tryz.underlying39 rfl (by kernel_rfl) ?_) | fail)
    refine Calls.mono (has_slot { t with ss := S } { a with sa := A, sn := n, sc := c } (i : Int) q1 wr HTX.out.sb HQ1.out) ?_
    rintro e w9c ⟨rfl, hb9⟩
    replace HR : Hid (w9c.heap[w.heap.size + 1]? = some (.cells #[.int .i64 0, .int .i64 0, .int .i64 0, .int .i64 0, .int .i64 0, .int .i64 0, .int .i64 0, .int .i64 0, .int .i64 0, .int .i64 0, .int .i64 0, .int .i64 0, .int .i64 0, .int .i64 0, .int .i64 0, .slice none 0 0, .slice none 0 0, .slice none 0 0, .slice none 0 0] 39 (0, 0))) := row_below HR.out hb9
    replace HX : Hid (TBx w9c w.heap.size { t with ss := S } { a with sa := A, sn := n, sc := c }) := HX.out.below hb9
    replace HSF : Hid (SF w.heap.size w9c A n S) := HSF.out.below hb9
    replace HMX : Hid (TM 0 w9c { t with ss := S } { a with sa := A, sn := n, sc := c }) := HMX.out.below hb9
    replace HB : Hid (Below w.heap.size w w9c) := HB.out.trans (hb9.mono HB.out.size)
    clear hb9
    cases q1
    · have HS' : Hid (S = evF t x f (i + 1)) := by
        have e := HS.out
        show _ = _
        rw [evF_no (fun g => by have h := g.2.1; rw [← e, HLN.out.1] at h; exact absurd (HQ1.out.2 ⟨by omega, by omega⟩) (by simp))]
        exact e
      clear HQ1 HMX HTX HSS HSX HG
      go_wp2_with fail
      go_roundw
      case rel => exact ⟨i + 1, S, A, n, c, by omega, by first | rfl | go_num, HS'.out, HB.out, HR.out, HX.out, HSF.out, HLN.out⟩
      case measure => simp [intOf]; omega
    have hin : i < n := by have := (HQ1.out.1 rfl).2; omega
    have hin' : (i : Int) < (n : Int) := by omega
    have k18 : w9c.cell? ⟨w.heap.size, 18, none⟩ = some (.slice A n c) := HX.out.cell 18 rfl
    obtain ⟨b1, o1, hsa, hbl1, p1⟩ := HSF.out.1.at i hin
    rw [hsa] at k18
    simp only [slX] at p1
    obtain ⟨c0, _, _⟩ := sl_cells p1
    obtain ⟨y, HY⟩ : ∃ y, Hid ((S.getD i sl0).1 = y) := ⟨_, rfl⟩
    rw [HY.out] at c0
    clear p1 hbl1 HQ1
    by_cases hp : y = x
    rotate_left
    · have hpb : (y == x) = false := by simp [hp]
      have HS' : Hid (S = evF t x f (i + 1)) := by
        have e := HS.out
        show _ = _
        rw [evF_no (fun g => hp (by have h := g.1; rw [← e, HY.out] at h; exact h))]
        exact e
      clear hp hsa HMX HTX HSS HSX HG
      go_wp2_with fail
      go_roundw
      case rel => exact ⟨i + 1, S, A, n, c, by omega, by first | rfl | go_num, HS'.out, HB.out, HR.out, HX.out, HSF.out, HLN.out⟩
      case measure => simp [intOf]; omega
    have hpb : (y == x) = true := by simp [hp]
    have HPX : Hid (y = x) := hp
    have HAB : Hid (A = some ⟨b1, o1, none⟩) := hsa
    have HIN : Hid (i < S.length) := by have := HLN.out.1; show _ < _; omega
    obtain ⟨q3, hq3⟩ := told (CanS { t with ss := S } (i : Int) f)
    have HQ3 : Hid (q3 = true ↔ CanS { t with ss := S } (i : Int) f) := hq3
    have hc : CanS { t with ss := S } (i : Int) f ↔ CutP t S i f := by
      refine ⟨fun h => ⟨HIN.out, h.2.2.1, h.2.2.2.1, by have := h.2.2.2.2; rw [Int.toNat_natCast] at this; exact this⟩, fun h => ⟨HSX.out, ⟨by omega, by have := h.1; show (i : Int) < (S.length : Int); omega⟩, h.2.1, h.2.2.1, by rw [Int.toNat_natCast]; exact h.2.2.2⟩⟩
    have HCC : Hid (CanS { t with ss := S } (i : Int) f ↔ CutP t S i f) := hc
    clear hp hq3 hsa hc
    go_wp2_with (first | (refine wpList_load_row rfl 39 (.tmp 3) rfl w.heap.size rfl 39 (tbA t { a with sa := A, sn := n, sc := c }) (0, 0) _ HX.out Tryz.underlying39 rfl (by kernel_rfl) ?_) | (refine wpList_load_row_w (by rfl) 39 (.tmp 3) rfl w.heap.size rfl 39 (tbA t { a with sa := A, sn := n, sc := c }) (0, 0) _ HX.out Tryz.underlying39 rfl (by kernel_rfl) ?_) | fail)
    refine Calls.mono (can_split { t with ss := S } { a with sa := A, sn := n, sc := c } i f q3 _ HMX.out HTX.out HSX.out HIN.out HF.out HQ3.out) ?_
    rintro e w9d ⟨rfl, hb9⟩
    replace HR : Hid (w9d.heap[w.heap.size + 1]? = some (.cells #[.int .i64 0, .int .i64 0, .int .i64 0, .int .i64 0, .int .i64 0, .int .i64 0, .int .i64 0, .int .i64 0, .int .i64 0, .int .i64 0, .int .i64 0, .int .i64 0, .int .i64 0, .int .i64 0, .int .i64 0, .slice none 0 0, .slice none 0 0, .slice none 0 0, .slice none 0 0] 39 (0, 0))) := row_below HR.out hb9
    replace HX : Hid (TBx w9d w.heap.size { t with ss := S } { a with sa := A, sn := n, sc := c }) := HX.out.below hb9
    replace HSF : Hid (SF w.heap.size w9d A n S) := HSF.out.below hb9
    replace HMX : Hid (TM 0 w9d { t with ss := S } { a with sa := A, sn := n, sc := c }) := HMX.out.below hb9
    replace HB : Hid (Below w.heap.size w w9d) := HB.out.trans (hb9.mono HB.out.size)
    clear hb9 k18 c0
    cases q3
    · have HS' : Hid (S = evF t x f (i + 1)) := by
        have e := HS.out
        show _ = _
        rw [evF_no (fun g => by have h := g.2; rw [← e] at h; exact absurd (HQ3.out.2 (HCC.out.2 h)) (by simp))]
        exact e
      clear HQ3 HMX HTX HSS HSX HG HCC HPX HAB
      go_wp2_with fail
      go_roundw
      case rel => exact ⟨i + 1, S, A, n, c, by omega, by first | rfl | go_num, HS'.out, HB.out, HR.out, HX.out, HSF.out, HLN.out⟩
      case measure => simp [intOf]; omega
    have HCY : Hid (CanS { t with ss := S } (i : Int) f) := HQ3.out.1 rfl
    have HS' : Hid (splL S i f = evF t x f (i + 1)) := by
      have e := HS.out
      have h1 : ((evF t x f i).getD i sl0).1 = x := by rw [← e, HY.out]; exact HPX.out
      show _ = _
      rw [evF_yes h1 (by rw [← e]; exact HCC.out.1 HCY.out), ← e]
    have HNC : Hid (n ≤ c) := HLN.out.2
    clear HQ3 HCC HPX HAB
    go_wp2_with (first | (refine wpList_load_row rfl 39 (.tmp 3) rfl w.heap.size rfl 39 (tbA t { a with sa := A, sn := n, sc := c }) (0, 0) _ HX.out Tryz.underlying39 rfl (by kernel_rfl) ?_) | (refine wpList_load_row_w (by rfl) 39 (.tmp 3) rfl w.heap.size rfl 39 (tbA t { a with sa := A, sn := n, sc := c }) (0, 0) _ HX.out Tryz.underlying39 rfl (by kernel_rfl) ?_) | fail)
    refine Calls.mono (impl_sp { t with ss := S } { a with sa := A, sn := n, sc := c } i f _ HMX.out HTX.out HSS.out HNC.out HCY.out) ?_
    rintro e w6 ⟨a6, rfl, hb6, hm6, hw6, hs6, hc6, ha6, hg6⟩
    have hx6 := HX.out.below hb6
    have hr6 := row_below HR.out hb6
    have hlt6 : w.heap.size + 1 < w9d.heap.size := (Array.getElem?_eq_some_iff.1 HR.out).1
    obtain ⟨A6, n6, c6, HA6⟩ : ∃ A6 n6 c6, Hid (a6 = { a with sa := A6, sn := n6, sc := c6 }) := ⟨a6.sa, a6.sn, a6.sc, ha6⟩
    clear ha6
    have hl6 : (splL S i f).length = a6.sn := hw6.sl
    rw [HA6.out] at hg6 hl6 hc6 ⊢
    have HB7 : Hid (Below w.heap.size w (w6.setRow w.heap.size (tbA t { a with sa := A6, sn := n6, sc := c6 }))) := below_setRow (HB.out.trans (hb6.mono HB.out.size)) (Nat.le_refl _) _
    have HX7 : Hid (TBx (w6.setRow w.heap.size (tbA t { a with sa := A6, sn := n6, sc := c6 })) w.heap.size { t with ss := splL S i f } { a with sa := A6, sn := n6, sc := c6 }) := setRow_heap _ _ _ _ _ _ hx6
    have HR7 : Hid ((w6.setRow w.heap.size (tbA t { a with sa := A6, sn := n6, sc := c6 })).heap[w.heap.size + 1]? = some (.cells #[.int .i64 0, .int .i64 0, .int .i64 0, .int .i64 0, .int .i64 0, .int .i64 0, .int .i64 0, .int .i64 0, .int .i64 0, .int .i64 0, .int .i64 0, .int .i64 0, .int .i64 0, .int .i64 0, .int .i64 0, .slice none 0 0, .slice none 0 0, .slice none 0 0, .slice none 0 0] 39 (0, 0))) := (setRow_other _ _ _ _ (by omega)).trans hr6
    have HSF7 : Hid (SF w.heap.size (w6.setRow w.heap.size (tbA t { a with sa := A6, sn := n6, sc := c6 })) A6 n6 (splL S i f)) := sf_new _ hg6 hlt6
    have HLN7 : Hid ((splL S i f).length = n6 ∧ n6 ≤ c6) := ⟨hl6, hc6⟩
    have HX6 : Hid (TBx w6 w.heap.size { t with ss := S } { a with sa := A, sn := n, sc := c }) := hx6
    clear hb6 hm6 hw6 hs6 hc6 hg6 hx6 hr6 hlt6 hl6 HA6 HMX HTX HSS HSX HG HX HR HB
    go_wp2_with (first | (refine wpList_store_row rfl 39 (.tmp 3) (.tmp 44) rfl w.heap.size (tbA t { a with sa := A6, sn := n6, sc := c6 }) rfl rfl 39 (tbA t { a with sa := A, sn := n, sc := c }) HX6.out (by kernel_rfl) rfl (by simp [Value.oneCell']) ?_) | fail)
    go_roundw
    case rel => exact ⟨i + 1, splL S i f, A6, n6, c6, by omega, by first | rfl | go_num, HS'.out, HB7.out, HR7.out, HX7.out, HSF7.out, HLN7.out⟩
    case measure => simp [intOf]; omega
end Go.Proofs.YthieilkabcehgaaGreatDoor
