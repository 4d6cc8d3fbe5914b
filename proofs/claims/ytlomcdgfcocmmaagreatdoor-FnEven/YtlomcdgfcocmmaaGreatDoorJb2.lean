/-
  The specification's copy of tables with other slots: every list made anew. Conditions: the lists lie in memory; lengths are at most 1048576.
  What Split answers, as plain facts, and Split of the specification. Conditions: the lists lie in memory.
  Split of the specification. Conditions: the lists lie in memory.
  Slots cut again and again: what is left, that it is sound, and where it ends. No conditions but those that each fact names.
  Three lists of slots joined into one by the library's own function. Conditions: the lists lie in memory; 1 to 60 slots in all.
-/
import Derived.Test.YtlomcdgfcocmmaaGreatDoorBas
import Derived.Test.YtlomcdgfcocmmaaGreatDoorJb1
import Derived.Test.YtlomcdgfcocmmaaGreatDoorLsw
import Derived.Test.YtlomcdgfcocmmaaGreatDoorSp6
import Derived.Test.YtlomcdgfcocmmaaGreatDoorTim
import Derived.Lib.SmallJoins
import Derived.Lib.AppendZerosOnto
import Derived.Lib.Walk
import Derived.Lib.SliceRun
import Derived.Shelf.RegionOpenPlain
namespace Go.Proofs.YtlomcdgfcocmmaaGreatDoor
open Go.ChangeShapes Go.WideShapes Go.ChangeAt Go.RowKit Go.Deep Go.Joins
set_option linter.unusedVariables false

theorem res_scp {W : World} {B : Nat} {cs : Array Value} {tmps : Array Value} (h : W.heap[B]? = some (.cells cs 33 (0, 0))) (hl : cs.size = 19) (ht : tmps[4]? = some (.pointer (some ⟨B, 0, none⟩))) : (results Tryz.f34 tmps).run Tryz.prog W = .ok (.agg cs) W := by
  have hld : (loadVar 33 ⟨B, 0, none⟩).run Tryz.prog W = .ok (.agg cs) W := run_loadVar_row (P := Tryz.prog) W B 33 33 cs (0, 0) _ h Tryz.underlying33 rfl (by rw [hl]; kernel_rfl)
  unfold results
  rw [Tryz.results34]
  simp [ht, asAddr, hld]
theorem tbx_low {X X' : World} {B n : Nat} {t : Tb} {a : Ad} (h : TBx X B t a) (hb : Below n X X') (hB : B < n) : TBx X' B t a := by
  unfold TBx at h ⊢
  exact (hb.block B hB).trans h
theorem tbx_free {w : World} {B : Nat} {t : Tb} {a : Ad} (h : TBx w B t a) (j : Nat) : w.frozen? ⟨B, j, none⟩ = false := by
  unfold TBx at h
  simp [World.frozen?, h]
theorem sli : ∃ i, Tryz.prog.info? 42 = some i ∧ i.zero = some (.agg #[.int .i64 0, .int .i64 0, .int .i64 0]) ∧ i.size = 3 ∧ i.bytes = 24 := by
  obtain ⟨i, hi, h⟩ := Option.map_eq_some_iff.1 sl_info
  simp only [Prod.mk.injEq] at h
  exact ⟨i, hi, h.1, h.2.1, h.2.2⟩
theorem chi : ∃ i, Tryz.prog.info? 76 = some i ∧ i.zero = some (.agg #[.int .i64 0, .int .i64 0, .int .i64 0, .int .i64 0]) ∧ i.size = 4 ∧ i.bytes = 32 := by
  obtain ⟨i, hi, h⟩ := Option.map_eq_some_iff.1 ch_info
  simp only [Prod.mk.injEq] at h
  exact ⟨i, hi, h.1, h.2.1, h.2.2⟩
theorem ini : ∃ i, Tryz.prog.info? 3 = some i ∧ i.zero = some (.int .i64 0) ∧ i.size = 1 ∧ i.bytes = 8 := by
  obtain ⟨i, hi, h⟩ := Option.map_eq_some_iff.1 in_info
  simp only [Prod.mk.injEq] at h
  exact ⟨i, hi, h.1, h.2.1, h.2.2⟩
theorem wdi : ∃ i, Tryz.prog.info? 74 = some i ∧ i.zero = some (.agg #[.int .i64 0, .int .i64 0, .int .i64 0]) ∧ i.size = 3 ∧ i.bytes = 24 := by
  have h0 : (Tryz.prog.info? 74).map (fun i => (i.zero, i.size, i.bytes)) = some (some (.agg #[.int .i64 0, .int .i64 0, .int .i64 0]), 3, 24) := by kernel_rfl
  obtain ⟨i, hi, h⟩ := Option.map_eq_some_iff.1 h0
  simp only [Prod.mk.injEq] at h
  exact ⟨i, hi, h.1, h.2.1, h.2.2⟩
theorem pti : ∃ i, Tryz.prog.info? 72 = some i ∧ i.zero = some (.agg #[.string ByteArray.empty, .int .i64 0, .int .i64 0, .int .i64 0, .slice none 0 0]) ∧ i.size = 5 ∧ i.bytes = 64 := by
  obtain ⟨i, hi, h⟩ := Option.map_eq_some_iff.1 rw_info
  simp only [Prod.mk.injEq] at h
  exact ⟨i, hi, h.1, h.2.1, h.2.2⟩
set_option maxRecDepth 40000 in
set_option maxHeartbeats 16000000 in
theorem spec_cp (t : Tb) (a : Ad) (za : Option Addr) (zc zn : Nat) (zs : List slT) (w : World) (hm : TM 0 w t a) (hw : TW t a) (hs : TS a) (hz : GSeg 3 w za zn (slX zs)) (hzl : zs.length = zn) (hzn : zn ≤ 1048576) (hzf : ∀ i, i < zn → (zs.getD i sl0).2.1 ≤ 9223372036854775807 ∧ -9223372036854775808 ≤ (zs.getD i sl0).2.1) :
    Calls Tryz.prog 34 #[tbV t a, .slice za zn zc] w fun e w' => ∃ a', e = .returned (tbV { t with ss := zs } a') ∧ Below w.heap.size w w' ∧ KT w.heap.size w'.heap.size w' { t with ss := zs } a' ∧ TW { t with ss := zs } a' ∧ TS a' ∧ a'.pn = a.pn ∧ a'.dn = a.dn ∧ a'.cn = a.cn ∧ a'.sn = zn := by
  have HTW : Hid (TW t a) := hw
  have HTS : Hid (TS a) := hs
  have hpn : a.pn ≤ 1048576 := hs.p
  have hdn : a.dn ≤ 1048576 := hs.d
  have hcn : a.cn ≤ 1048576 := hs.c
  have HZF : Hid (zs.length = zn ∧ ∀ i, i < zn → (zs.getD i sl0).2.1 ≤ 9223372036854775807 ∧ -9223372036854775808 ≤ (zs.getD i sl0).2.1) := ⟨hzl, hzf⟩
  have HMM : Hid (∀ X, Below w.heap.size w X → TM 0 X t a ∧ GSeg 3 X za zn (slX zs)) := fun X hX => ⟨hm.below hX, hz.below hX⟩
  obtain ⟨iS, hi1, hi2, hi3, hi4⟩ := sli
  have HIS : Hid (Tryz.prog.info? 42 = some iS ∧ iS.zero = some (.agg #[.int .i64 0, .int .i64 0, .int .i64 0]) ∧ iS.size = 3 ∧ iS.bytes = 24) := ⟨hi1, hi2, hi3, hi4⟩
  clear hi1 hi2 hi3 hi4
  obtain ⟨iC, hi1, hi2, hi3, hi4⟩ := chi
  have HIC : Hid (Tryz.prog.info? 76 = some iC ∧ iC.zero = some (.agg #[.int .i64 0, .int .i64 0, .int .i64 0, .int .i64 0]) ∧ iC.size = 4 ∧ iC.bytes = 32) := ⟨hi1, hi2, hi3, hi4⟩
  clear hi1 hi2 hi3 hi4
  obtain ⟨iI, hi1, hi2, hi3, hi4⟩ := ini
  have HII : Hid (Tryz.prog.info? 3 = some iI ∧ iI.zero = some (.int .i64 0) ∧ iI.size = 1 ∧ iI.bytes = 8) := ⟨hi1, hi2, hi3, hi4⟩
  clear hi1 hi2 hi3 hi4
  obtain ⟨iW, hi1, hi2, hi3, hi4⟩ := wdi
  have HIW : Hid (Tryz.prog.info? 74 = some iW ∧ iW.zero = some (.agg #[.int .i64 0, .int .i64 0, .int .i64 0]) ∧ iW.size = 3 ∧ iW.bytes = 24) := ⟨hi1, hi2, hi3, hi4⟩
  clear hi1 hi2 hi3 hi4
  obtain ⟨iP, hi1, hi2, hi3, hi4⟩ := pti
  have HIP : Hid (Tryz.prog.info? 72 = some iP ∧ iP.zero = some (.agg #[.string ByteArray.empty, .int .i64 0, .int .i64 0, .int .i64 0, .slice none 0 0]) ∧ iP.size = 5 ∧ iP.bytes = 64) := ⟨hi1, hi2, hi3, hi4⟩
  clear hi1 hi2 hi3 hi4
  have HB2 : Hid (Below w.heap.size w ((w.alloc (.cells (tbA t a) 33)).alloc (.cells #[.int .i64 0, .int .i64 0, .int .i64 0, .int .i64 0, .int .i64 0, .int .i64 0, .int .i64 0, .int .i64 0, .int .i64 0, .int .i64 0, .int .i64 0, .int .i64 0, .int .i64 0, .int .i64 0, .int .i64 0, .slice none 0 0, .slice none 0 0, .slice none 0 0, .slice none 0 0] 33))) := ((Below.refl _ _).alloc (Nat.le_refl _) _).alloc (by simp) _
  have HX2 : Hid (TBx ((w.alloc (.cells (tbA t a) 33)).alloc (.cells #[.int .i64 0, .int .i64 0, .int .i64 0, .int .i64 0, .int .i64 0, .int .i64 0, .int .i64 0, .int .i64 0, .int .i64 0, .int .i64 0, .int .i64 0, .int .i64 0, .int .i64 0, .int .i64 0, .int .i64 0, .slice none 0 0, .slice none 0 0, .slice none 0 0, .slice none 0 0] 33)) w.heap.size t a) := (TBx.new w t a _ rfl).below ((Below.refl _ _).alloc (Nat.le_refl _) _)
  have HR2 : Hid (((w.alloc (.cells (tbA t a) 33)).alloc (.cells #[.int .i64 0, .int .i64 0, .int .i64 0, .int .i64 0, .int .i64 0, .int .i64 0, .int .i64 0, .int .i64 0, .int .i64 0, .int .i64 0, .int .i64 0, .int .i64 0, .int .i64 0, .int .i64 0, .int .i64 0, .slice none 0 0, .slice none 0 0, .slice none 0 0, .slice none 0 0] 33)).heap[w.heap.size + 1]? = some (.cells #[.int .i64 0, .int .i64 0, .int .i64 0, .int .i64 0, .int .i64 0, .int .i64 0, .int .i64 0, .int .i64 0, .int .i64 0, .int .i64 0, .int .i64 0, .int .i64 0, .int .i64 0, .int .i64 0, .int .i64 0, .slice none 0 0, .slice none 0 0, .slice none 0 0, .slice none 0 0] 33 (0, 0))) := new_row (w.alloc (.cells (tbA t a) 33)) _ _ _ (by simp)
  have HN3 : Hid ((((w.alloc (.cells (tbA t a) 33)).alloc (.cells #[.int .i64 0, .int .i64 0, .int .i64 0, .int .i64 0, .int .i64 0, .int .i64 0, .int .i64 0, .int .i64 0, .int .i64 0, .int .i64 0, .int .i64 0, .int .i64 0, .int .i64 0, .int .i64 0, .int .i64 0, .slice none 0 0, .slice none 0 0, .slice none 0 0, .slice none 0 0] 33)).alloc (.cells #[.int .i64 0, .int .i64 0, .int .i64 0, .int .i64 0, .int .i64 0, .int .i64 0, .int .i64 0, .int .i64 0, .int .i64 0, .int .i64 0, .int .i64 0, .int .i64 0, .int .i64 0, .int .i64 0, .int .i64 0, .slice none 0 0, .slice none 0 0, .slice none 0 0, .slice none 0 0] 33)).heap[w.heap.size + 1 + 1]? = some (.cells #[.int .i64 0, .int .i64 0, .int .i64 0, .int .i64 0, .int .i64 0, .int .i64 0, .int .i64 0, .int .i64 0, .int .i64 0, .int .i64 0, .int .i64 0, .int .i64 0, .int .i64 0, .int .i64 0, .int .i64 0, .slice none 0 0, .slice none 0 0, .slice none 0 0, .slice none 0 0] 33 (0, 0))) := new_row ((w.alloc (.cells (tbA t a) 33)).alloc (.cells #[.int .i64 0, .int .i64 0, .int .i64 0, .int .i64 0, .int .i64 0, .int .i64 0, .int .i64 0, .int .i64 0, .int .i64 0, .int .i64 0, .int .i64 0, .int .i64 0, .int .i64 0, .int .i64 0, .int .i64 0, .slice none 0 0, .slice none 0 0, .slice none 0 0, .slice none 0 0] 33)) _ _ _ (by simp)
  have HB4 : Hid (Below w.heap.size w ((((w.alloc (.cells (tbA t a) 33)).alloc (.cells #[.int .i64 0, .int .i64 0, .int .i64 0, .int .i64 0, .int .i64 0, .int .i64 0, .int .i64 0, .int .i64 0, .int .i64 0, .int .i64 0, .int .i64 0, .int .i64 0, .int .i64 0, .int .i64 0, .int .i64 0, .slice none 0 0, .slice none 0 0, .slice none 0 0, .slice none 0 0] 33)).alloc (.cells #[.int .i64 0, .int .i64 0, .int .i64 0, .int .i64 0, .int .i64 0, .int .i64 0, .int .i64 0, .int .i64 0, .int .i64 0, .int .i64 0, .int .i64 0, .int .i64 0, .int .i64 0, .int .i64 0, .int .i64 0, .slice none 0 0, .slice none 0 0, .slice none 0 0, .slice none 0 0] 33)).setRow (w.heap.size + 1 + 1) (tbA t a))) := below_setRow (HB2.out.alloc (by simp; omega) _) (by omega) _
  have HO4 : Hid (TBx ((((w.alloc (.cells (tbA t a) 33)).alloc (.cells #[.int .i64 0, .int .i64 0, .int .i64 0, .int .i64 0, .int .i64 0, .int .i64 0, .int .i64 0, .int .i64 0, .int .i64 0, .int .i64 0, .int .i64 0, .int .i64 0, .int .i64 0, .int .i64 0, .int .i64 0, .slice none 0 0, .slice none 0 0, .slice none 0 0, .slice none 0 0] 33)).alloc (.cells #[.int .i64 0, .int .i64 0, .int .i64 0, .int .i64 0, .int .i64 0, .int .i64 0, .int .i64 0, .int .i64 0, .int .i64 0, .int .i64 0, .int .i64 0, .int .i64 0, .int .i64 0, .int .i64 0, .int .i64 0, .slice none 0 0, .slice none 0 0, .slice none 0 0, .slice none 0 0] 33)).setRow (w.heap.size + 1 + 1) (tbA t a)) (w.heap.size + 1 + 1) t a) := setRow_heap _ _ _ _ _ _ HN3.out
  have HS4 : Hid (((((w.alloc (.cells (tbA t a) 33)).alloc (.cells #[.int .i64 0, .int .i64 0, .int .i64 0, .int .i64 0, .int .i64 0, .int .i64 0, .int .i64 0, .int .i64 0, .int .i64 0, .int .i64 0, .int .i64 0, .int .i64 0, .int .i64 0, .int .i64 0, .int .i64 0, .slice none 0 0, .slice none 0 0, .slice none 0 0, .slice none 0 0] 33)).alloc (.cells #[.int .i64 0, .int .i64 0, .int .i64 0, .int .i64 0, .int .i64 0, .int .i64 0, .int .i64 0, .int .i64 0, .int .i64 0, .int .i64 0, .int .i64 0, .int .i64 0, .int .i64 0, .int .i64 0, .int .i64 0, .slice none 0 0, .slice none 0 0, .slice none 0 0, .slice none 0 0] 33)).setRow (w.heap.size + 1 + 1) (tbA t a)).heap.size = w.heap.size + 1 + 1 + 1) := by show _ = _; simp [World.setRow]
  have hb34 : Below (w.heap.size + 1 + 1) ((w.alloc (.cells (tbA t a) 33)).alloc (.cells #[.int .i64 0, .int .i64 0, .int .i64 0, .int .i64 0, .int .i64 0, .int .i64 0, .int .i64 0, .int .i64 0, .int .i64 0, .int .i64 0, .int .i64 0, .int .i64 0, .int .i64 0, .int .i64 0, .int .i64 0, .slice none 0 0, .slice none 0 0, .slice none 0 0, .slice none 0 0] 33)) ((((w.alloc (.cells (tbA t a) 33)).alloc (.cells #[.int .i64 0, .int .i64 0, .int .i64 0, .int .i64 0, .int .i64 0, .int .i64 0, .int .i64 0, .int .i64 0, .int .i64 0, .int .i64 0, .int .i64 0, .int .i64 0, .int .i64 0, .int .i64 0, .int .i64 0, .slice none 0 0, .slice none 0 0, .slice none 0 0, .slice none 0 0] 33)).alloc (.cells #[.int .i64 0, .int .i64 0, .int .i64 0, .int .i64 0, .int .i64 0, .int .i64 0, .int .i64 0, .int .i64 0, .int .i64 0, .int .i64 0, .int .i64 0, .int .i64 0, .int .i64 0, .int .i64 0, .int .i64 0, .slice none 0 0, .slice none 0 0, .slice none 0 0, .slice none 0 0] 33)).setRow (w.heap.size + 1 + 1) (tbA t a)) := below_setRow ((Below.refl _ _).alloc (by simp) _) (Nat.le_refl _) _
  have HX4 : Hid (TBx ((((w.alloc (.cells (tbA t a) 33)).alloc (.cells #[.int .i64 0, .int .i64 0, .int .i64 0, .int .i64 0, .int .i64 0, .int .i64 0, .int .i64 0, .int .i64 0, .int .i64 0, .int .i64 0, .int .i64 0, .int .i64 0, .int .i64 0, .int .i64 0, .int .i64 0, .slice none 0 0, .slice none 0 0, .slice none 0 0, .slice none 0 0] 33)).alloc (.cells #[.int .i64 0, .int .i64 0, .int .i64 0, .int .i64 0, .int .i64 0, .int .i64 0, .int .i64 0, .int .i64 0, .int .i64 0, .int .i64 0, .int .i64 0, .int .i64 0, .int .i64 0, .int .i64 0, .int .i64 0, .slice none 0 0, .slice none 0 0, .slice none 0 0, .slice none 0 0] 33)).setRow (w.heap.size + 1 + 1) (tbA t a)) w.heap.size t a) := by
    show TBx _ _ _ _
    have h := hb34.block w.heap.size (by omega)
    unfold TBx
    rw [h]
    exact HX2.out
  have HR4 : Hid (((((w.alloc (.cells (tbA t a) 33)).alloc (.cells #[.int .i64 0, .int .i64 0, .int .i64 0, .int .i64 0, .int .i64 0, .int .i64 0, .int .i64 0, .int .i64 0, .int .i64 0, .int .i64 0, .int .i64 0, .int .i64 0, .int .i64 0, .int .i64 0, .int .i64 0, .slice none 0 0, .slice none 0 0, .slice none 0 0, .slice none 0 0] 33)).alloc (.cells #[.int .i64 0, .int .i64 0, .int .i64 0, .int .i64 0, .int .i64 0, .int .i64 0, .int .i64 0, .int .i64 0, .int .i64 0, .int .i64 0, .int .i64 0, .int .i64 0, .int .i64 0, .int .i64 0, .int .i64 0, .slice none 0 0, .slice none 0 0, .slice none 0 0, .slice none 0 0] 33)).setRow (w.heap.size + 1 + 1) (tbA t a)).heap[w.heap.size + 1]? = some (.cells #[.int .i64 0, .int .i64 0, .int .i64 0, .int .i64 0, .int .i64 0, .int .i64 0, .int .i64 0, .int .i64 0, .int .i64 0, .int .i64 0, .int .i64 0, .int .i64 0, .int .i64 0, .int .i64 0, .int .i64 0, .slice none 0 0, .slice none 0 0, .slice none 0 0, .slice none 0 0] 33 (0, 0))) := (hb34.block _ (by omega)).trans HR2.out
  clear hb34 hm hw hs hz hzl hzf
  go_enter Tryz.func34, Tryz.ntmps34
  go_wp2_with (first | (refine wpList_load_row rfl 33 (.tmp 2) rfl w.heap.size rfl 33 (tbA t a) (0, 0) _ HX2.out Tryz.underlying33 rfl (by kernel_rfl) ?_) | (refine wpList_store_row rfl 33 (.tmp 5) (.tmp 8) rfl (w.heap.size + 1 + 1) (tbA t a) rfl rfl 33 #[.int .i64 0, .int .i64 0, .int .i64 0, .int .i64 0, .int .i64 0, .int .i64 0, .int .i64 0, .int .i64 0, .int .i64 0, .int .i64 0, .int .i64 0, .int .i64 0, .int .i64 0, .int .i64 0, .int .i64 0, .slice none 0 0, .slice none 0 0, .slice none 0 0, .slice none 0 0] HN3.out (by kernel_rfl) rfl (by simp [Value.oneCell']) ?_; clear HN3 HB2 HX2 HR2; revert HB4 HO4 HS4 HX4 HR4; generalize ((((w.alloc (.cells (tbA t a) 33)).alloc (.cells #[.int .i64 0, .int .i64 0, .int .i64 0, .int .i64 0, .int .i64 0, .int .i64 0, .int .i64 0, .int .i64 0, .int .i64 0, .int .i64 0, .int .i64 0, .int .i64 0, .int .i64 0, .int .i64 0, .int .i64 0, .slice none 0 0, .slice none 0 0, .slice none 0 0, .slice none 0 0] 33)).alloc (.cells #[.int .i64 0, .int .i64 0, .int .i64 0, .int .i64 0, .int .i64 0, .int .i64 0, .int .i64 0, .int .i64 0, .int .i64 0, .int .i64 0, .int .i64 0, .int .i64 0, .int .i64 0, .int .i64 0, .int .i64 0, .slice none 0 0, .slice none 0 0, .slice none 0 0, .slice none 0 0] 33)).setRow (w.heap.size + 1 + 1) (tbA t a)) = W4; obtain ⟨O, HO⟩ : ∃ O, Hid (w.heap.size + 1 + 1 = O) := ⟨_, rfl⟩; rw [HO.out]; intro HB4 HO4 HS4 HX4 HR4; have HOL : Hid (O < W4.heap.size) := (by have h1 := HO.out; have h2 := HS4.out; show _ < _; omega); have HOW1 : Hid ((W4.alloc (.cells #[] 42)).ownsRow W4.heap.size 42 3 (.slice (some ⟨W4.heap.size, 0, none⟩) 0 0) 0 []) := own_lit0 W4 _ 3) | (at_builtin; refine wpList_append_any rfl (.tmp 9) (.tmp 10) 31 rfl W4.heap.size 42 iS (.agg #[.int .i64 0, .int .i64 0, .int .i64 0]) 3 24 Tryz.underlying31 HIS.out.1 HIS.out.2.1 HIS.out.2.2.1 HIS.out.2.2.2 rfl (by decide) ((.slice (some ⟨W4.heap.size, 0, none⟩) 0 0)) 0 [] rfl HOW1.out za zn zc (gcat ((slX zs)) zn) rfl (gcat_len fun i _ => slX_len zs i) (newsP_of (by decide) (fun i => slX_len zs i) (HMM.out _ (HB4.out.alloc HB4.out.size _)).2) (gcat_one fun i _ => slX_one zs i) (by unfold maxLen; omega) (by omega) (by simp) ?_; intro v1 w5 ho1 hg1 hk1; rw [Nat.zero_add, List.nil_append] at ho1; obtain ⟨z1, q1, rfl, hq1, hl1⟩ := own_ls (fun i _ => slX_len zs i) ho1; have hb5 : Below W4.heap.size W4 w5 := ((Below.refl _ _).alloc (Nat.le_refl _) _).grown hg1 (by simp) (fun k hk => by simp [Value.ownBlock] at hk; omega); have HSZ1 : Hid (W4.heap.size ≤ w5.heap.size) := (by show _ ≤ _; first | exact hb5.size | (have := hb5.size; simp at this; omega)); have HB5 : Hid (Below w.heap.size w w5) := HB4.out.trans (hb5.mono (by first | exact HB4.out.size | (have := HB4.out.size; simp at this; omega))); have HO5 : Hid (TBx w5 O t a) := HO4.out.below hb5; have HX5 : Hid (TBx w5 w.heap.size t a) := HX4.out.below hb5; have HR5 : Hid (w5.heap[w.heap.size + 1]? = some (.cells #[.int .i64 0, .int .i64 0, .int .i64 0, .int .i64 0, .int .i64 0, .int .i64 0, .int .i64 0, .int .i64 0, .int .i64 0, .int .i64 0, .int .i64 0, .int .i64 0, .int .i64 0, .int .i64 0, .int .i64 0, .slice none 0 0, .slice none 0 0, .slice none 0 0, .slice none 0 0] 33 (0, 0))) := row_below HR4.out (hb5); have HL1 : Hid (LS 3 W4.heap.size w5.heap.size w5 z1 zn (slX zs)) := hl1; have ko1 : w5.cell? ⟨O, 18, none⟩ = some (.slice a.sa a.sn a.sc) := HO5.out.cell 18 rfl; have kf1 : w5.frozen? ⟨O, 18, none⟩ = false := tbx_free HO5.out _; have HBS1 : Hid (Below w.heap.size w (w5.setCell ⟨O, 18, none⟩ (.slice z1 zn q1))) := HB5.out.setCell (p := ⟨O, 18, none⟩) (by show w.heap.size ≤ O; have := HO.out; omega) _; have HOS1 : Hid (TBx (w5.setCell ⟨O, 18, none⟩ (.slice z1 zn q1)) O t ⟨a.pa, a.pn, a.pc, a.da, a.dn, a.dc, a.ca, a.cn, a.cc, z1, zn, q1, a.Y⟩) := tbx_set HO5.out 18 _ rfl; have HXS1 : Hid (TBx (w5.setCell ⟨O, 18, none⟩ (.slice z1 zn q1)) w.heap.size t a) := HX5.out.set_other (by have := HO.out; omega); have HRS1 : Hid ((w5.setCell ⟨O, 18, none⟩ (.slice z1 zn q1)).heap[w.heap.size + 1]? = some (.cells #[.int .i64 0, .int .i64 0, .int .i64 0, .int .i64 0, .int .i64 0, .int .i64 0, .int .i64 0, .int .i64 0, .int .i64 0, .int .i64 0, .int .i64 0, .int .i64 0, .int .i64 0, .int .i64 0, .int .i64 0, .slice none 0 0, .slice none 0 0, .slice none 0 0, .slice none 0 0] 33 (0, 0))) := (block_set_other _ _ _ _ _ (by have := HO.out; omega)).trans HR5.out; replace HL1 : Hid (LS 3 W4.heap.size w5.heap.size (w5.setCell ⟨O, 18, none⟩ (.slice z1 zn q1)) z1 zn (slX zs)) := HL1.out.set (Or.inl (by have := HOL.out; have := HSZ1.out; first | omega | (have := HSZ2.out; omega))); have HBL2 : Hid (Below w.heap.size w ((w5.setCell ⟨O, 18, none⟩ (.slice z1 zn q1)).alloc (.cells #[] 3))) := HBS1.out.alloc HBS1.out.size _; have HOW2 : Hid (((w5.setCell ⟨O, 18, none⟩ (.slice z1 zn q1)).alloc (.cells #[] 3)).ownsRow w5.heap.size 3 1 (.slice (some ⟨w5.heap.size, 0, none⟩) 0 0) 0 []) := (by have h := own_lit0 (w5.setCell ⟨O, 18, none⟩ (.slice z1 zn q1)) 3 1; simp at h; exact h); have kx2 : ((w5.setCell ⟨O, 18, none⟩ (.slice z1 zn q1)).alloc (.cells #[] 3)).cell? ⟨w.heap.size, 16, none⟩ = some (.slice a.da a.dn a.dc) := (HXS1.out.below ((Below.refl _ _).alloc (Nat.le_refl _) _)).cell 16 rfl; clear ho1 hg1 hk1 hl1 hb5 HB5 HO5 HX5 HR5 HOW1 HB4 HO4 HX4 HR4) | (at_builtin; refine wpList_append_any rfl (.tmp 13) (.tmp 15) 29 rfl w5.heap.size 3 iI (.int .i64 0) 1 8 Tryz.underlying29 HII.out.1 HII.out.2.1 HII.out.2.2.1 HII.out.2.2.2 rfl (by decide) ((.slice (some ⟨w5.heap.size, 0, none⟩) 0 0)) 0 [] rfl HOW2.out a.da a.dn a.dc (gcat ((inX t.ds)) a.dn) rfl (gcat_len fun i _ => inX_len t.ds i) (newsP_of (by decide) (fun i => inX_len t.ds i) (HMM.out _ HBL2.out).1.d.seg) (gcat_one fun i _ => inX_one t.ds i) (by unfold maxLen; omega) (by omega) (by simp) ?_; intro v2 w6 ho2 hg2 hk2; rw [Nat.zero_add, List.nil_append] at ho2; obtain ⟨z2, q2, rfl, hq2, hl2⟩ := own_ls (fun i _ => inX_len t.ds i) ho2; have hb6 : Below w5.heap.size (w5.setCell ⟨O, 18, none⟩ (.slice z1 zn q1)) w6 := ((Below.refl _ _).alloc (Nat.le_of_eq (by simp)) _).grown hg2 (by simp) (fun k hk => by simp [Value.ownBlock] at hk; omega); have HSZ2 : Hid (w5.heap.size ≤ w6.heap.size) := (by show _ ≤ _; first | exact hb6.size | (have := hb6.size; simp at this; omega)); have HB6 : Hid (Below w.heap.size w w6) := HBS1.out.trans (hb6.mono (by first | exact HBS1.out.size | (have := HBS1.out.size; simp at this; omega))); have HO6 : Hid (TBx w6 O t ⟨a.pa, a.pn, a.pc, a.da, a.dn, a.dc, a.ca, a.cn, a.cc, z1, zn, q1, a.Y⟩) := HOS1.out.below (hb6.mono (Nat.le_of_eq (by simp))); have HX6 : Hid (TBx w6 w.heap.size t a) := HXS1.out.below (hb6.mono (Nat.le_of_eq (by simp))); have HR6 : Hid (w6.heap[w.heap.size + 1]? = some (.cells #[.int .i64 0, .int .i64 0, .int .i64 0, .int .i64 0, .int .i64 0, .int .i64 0, .int .i64 0, .int .i64 0, .int .i64 0, .int .i64 0, .int .i64 0, .int .i64 0, .int .i64 0, .int .i64 0, .int .i64 0, .slice none 0 0, .slice none 0 0, .slice none 0 0, .slice none 0 0] 33 (0, 0))) := row_below HRS1.out (hb6.mono (Nat.le_of_eq (by simp))); have HL1b : Hid (LS 3 W4.heap.size w5.heap.size w6 z1 zn (slX zs)) := HL1.out.low hb6 (by first | exact Nat.le_refl _ | exact HSZ2.out); have HL2 : Hid (LS 1 w5.heap.size w6.heap.size w6 z2 a.dn (inX t.ds)) := hl2; have ko2 : w6.cell? ⟨O, 16, none⟩ = some (.slice a.da a.dn a.dc) := HO6.out.cell 16 rfl; have kf2 : w6.frozen? ⟨O, 16, none⟩ = false := tbx_free HO6.out _; have HBS2 : Hid (Below w.heap.size w (w6.setCell ⟨O, 16, none⟩ (.slice z2 a.dn q2))) := HB6.out.setCell (p := ⟨O, 16, none⟩) (by show w.heap.size ≤ O; have := HO.out; omega) _; have HOS2 : Hid (TBx (w6.setCell ⟨O, 16, none⟩ (.slice z2 a.dn q2)) O t ⟨a.pa, a.pn, a.pc, z2, a.dn, q2, a.ca, a.cn, a.cc, z1, zn, q1, a.Y⟩) := tbx_set HO6.out 16 _ rfl; have HXS2 : Hid (TBx (w6.setCell ⟨O, 16, none⟩ (.slice z2 a.dn q2)) w.heap.size t a) := HX6.out.set_other (by have := HO.out; omega); have HRS2 : Hid ((w6.setCell ⟨O, 16, none⟩ (.slice z2 a.dn q2)).heap[w.heap.size + 1]? = some (.cells #[.int .i64 0, .int .i64 0, .int .i64 0, .int .i64 0, .int .i64 0, .int .i64 0, .int .i64 0, .int .i64 0, .int .i64 0, .int .i64 0, .int .i64 0, .int .i64 0, .int .i64 0, .int .i64 0, .int .i64 0, .slice none 0 0, .slice none 0 0, .slice none 0 0, .slice none 0 0] 33 (0, 0))) := (block_set_other _ _ _ _ _ (by have := HO.out; omega)).trans HR6.out; replace HL1 : Hid (LS 3 W4.heap.size w5.heap.size (w6.setCell ⟨O, 16, none⟩ (.slice z2 a.dn q2)) z1 zn (slX zs)) := HL1b.out.set (Or.inl (by have := HOL.out; have := HSZ1.out; first | omega | (have := HSZ2.out; omega))); clear HL1b; replace HL2 : Hid (LS 1 w5.heap.size w6.heap.size (w6.setCell ⟨O, 16, none⟩ (.slice z2 a.dn q2)) z2 a.dn (inX t.ds)) := HL2.out.set (Or.inl (by have := HOL.out; have := HSZ1.out; first | omega | (have := HSZ2.out; omega))); have HBL3 : Hid (Below w.heap.size w ((w6.setCell ⟨O, 16, none⟩ (.slice z2 a.dn q2)).alloc (.cells #[] 76))) := HBS2.out.alloc HBS2.out.size _; have HOW3 : Hid (((w6.setCell ⟨O, 16, none⟩ (.slice z2 a.dn q2)).alloc (.cells #[] 76)).ownsRow w6.heap.size 76 4 (.slice (some ⟨w6.heap.size, 0, none⟩) 0 0) 0 []) := (by have h := own_lit0 (w6.setCell ⟨O, 16, none⟩ (.slice z2 a.dn q2)) 76 4; simp at h; exact h); have kx3 : ((w6.setCell ⟨O, 16, none⟩ (.slice z2 a.dn q2)).alloc (.cells #[] 76)).cell? ⟨w.heap.size, 17, none⟩ = some (.slice a.ca a.cn a.cc) := (HXS2.out.below ((Below.refl _ _).alloc (Nat.le_refl _) _)).cell 17 rfl; clear ho2 hg2 hk2 hl2 hb6 HB6 HO6 HX6 HR6 HOW2 HBS1 HOS1 HXS1 HRS1) | (at_builtin; refine wpList_append_any rfl (.tmp 18) (.tmp 20) 30 rfl w6.heap.size 76 iC (.agg #[.int .i64 0, .int .i64 0, .int .i64 0, .int .i64 0]) 4 32 Tryz.underlying30 HIC.out.1 HIC.out.2.1 HIC.out.2.2.1 HIC.out.2.2.2 rfl (by decide) ((.slice (some ⟨w6.heap.size, 0, none⟩) 0 0)) 0 [] rfl HOW3.out a.ca a.cn a.cc (gcat ((chX t.cs)) a.cn) rfl (gcat_len fun i _ => chX_len t.cs i) (newsP_of (by decide) (fun i => chX_len t.cs i) (HMM.out _ HBL3.out).1.c.seg) (gcat_one fun i _ => chX_one t.cs i) (by unfold maxLen; omega) (by omega) (by simp) ?_; intro v3 w7 ho3 hg3 hk3; rw [Nat.zero_add, List.nil_append] at ho3; obtain ⟨z3, q3, rfl, hq3, hl3⟩ := own_ls (fun i _ => chX_len t.cs i) ho3; have hb7 : Below w6.heap.size (w6.setCell ⟨O, 16, none⟩ (.slice z2 a.dn q2)) w7 := ((Below.refl _ _).alloc (Nat.le_of_eq (by simp)) _).grown hg3 (by simp) (fun k hk => by simp [Value.ownBlock] at hk; omega); have HSZ3 : Hid (w6.heap.size ≤ w7.heap.size) := (by show _ ≤ _; first | exact hb7.size | (have := hb7.size; simp at this; omega)); have HB7 : Hid (Below w.heap.size w w7) := HBS2.out.trans (hb7.mono (by first | exact HBS2.out.size | (have := HBS2.out.size; simp at this; omega))); have HO7 : Hid (TBx w7 O t ⟨a.pa, a.pn, a.pc, z2, a.dn, q2, a.ca, a.cn, a.cc, z1, zn, q1, a.Y⟩) := HOS2.out.below (hb7.mono (Nat.le_of_eq (by simp))); have HX7 : Hid (TBx w7 w.heap.size t a) := HXS2.out.below (hb7.mono (Nat.le_of_eq (by simp))); have HR7 : Hid (w7.heap[w.heap.size + 1]? = some (.cells #[.int .i64 0, .int .i64 0, .int .i64 0, .int .i64 0, .int .i64 0, .int .i64 0, .int .i64 0, .int .i64 0, .int .i64 0, .int .i64 0, .int .i64 0, .int .i64 0, .int .i64 0, .int .i64 0, .int .i64 0, .slice none 0 0, .slice none 0 0, .slice none 0 0, .slice none 0 0] 33 (0, 0))) := row_below HRS2.out (hb7.mono (Nat.le_of_eq (by simp))); have HL1b : Hid (LS 3 W4.heap.size w5.heap.size w7 z1 zn (slX zs)) := HL1.out.low hb7 (by first | exact Nat.le_refl _ | exact HSZ2.out); have HL2b : Hid (LS 1 w5.heap.size w6.heap.size w7 z2 a.dn (inX t.ds)) := HL2.out.low hb7 (by first | exact Nat.le_refl _ | exact HSZ2.out); have HL3 : Hid (LS 4 w6.heap.size w7.heap.size w7 z3 a.cn (chX t.cs)) := hl3; have ko3 : w7.cell? ⟨O, 17, none⟩ = some (.slice a.ca a.cn a.cc) := HO7.out.cell 17 rfl; have kf3 : w7.frozen? ⟨O, 17, none⟩ = false := tbx_free HO7.out _; have HBS3 : Hid (Below w.heap.size w (w7.setCell ⟨O, 17, none⟩ (.slice z3 a.cn q3))) := HB7.out.setCell (p := ⟨O, 17, none⟩) (by show w.heap.size ≤ O; have := HO.out; omega) _; have HOS3 : Hid (TBx (w7.setCell ⟨O, 17, none⟩ (.slice z3 a.cn q3)) O t ⟨a.pa, a.pn, a.pc, z2, a.dn, q2, z3, a.cn, q3, z1, zn, q1, a.Y⟩) := tbx_set HO7.out 17 _ rfl; have HXS3 : Hid (TBx (w7.setCell ⟨O, 17, none⟩ (.slice z3 a.cn q3)) w.heap.size t a) := HX7.out.set_other (by have := HO.out; omega); have HRS3 : Hid ((w7.setCell ⟨O, 17, none⟩ (.slice z3 a.cn q3)).heap[w.heap.size + 1]? = some (.cells #[.int .i64 0, .int .i64 0, .int .i64 0, .int .i64 0, .int .i64 0, .int .i64 0, .int .i64 0, .int .i64 0, .int .i64 0, .int .i64 0, .int .i64 0, .int .i64 0, .int .i64 0, .int .i64 0, .int .i64 0, .slice none 0 0, .slice none 0 0, .slice none 0 0, .slice none 0 0] 33 (0, 0))) := (block_set_other _ _ _ _ _ (by have := HO.out; omega)).trans HR7.out; replace HL1 : Hid (LS 3 W4.heap.size w5.heap.size (w7.setCell ⟨O, 17, none⟩ (.slice z3 a.cn q3)) z1 zn (slX zs)) := HL1b.out.set (Or.inl (by have := HOL.out; have := HSZ1.out; first | omega | (have := HSZ2.out; omega))); clear HL1b; replace HL2 : Hid (LS 1 w5.heap.size w6.heap.size (w7.setCell ⟨O, 17, none⟩ (.slice z3 a.cn q3)) z2 a.dn (inX t.ds)) := HL2b.out.set (Or.inl (by have := HOL.out; have := HSZ1.out; first | omega | (have := HSZ2.out; omega))); clear HL2b; replace HL3 : Hid (LS 4 w6.heap.size w7.heap.size (w7.setCell ⟨O, 17, none⟩ (.slice z3 a.cn q3)) z3 a.cn (chX t.cs)) := HL3.out.set (Or.inl (by have := HOL.out; have := HSZ1.out; first | omega | (have := HSZ2.out; omega))); have HBL4 : Hid (Below w.heap.size w ((w7.setCell ⟨O, 17, none⟩ (.slice z3 a.cn q3)).alloc (.cells #[] 72))) := HBS3.out.alloc HBS3.out.size _; have HOW4 : Hid (((w7.setCell ⟨O, 17, none⟩ (.slice z3 a.cn q3)).alloc (.cells #[] 72)).ownsRow w7.heap.size 72 5 (.slice (some ⟨w7.heap.size, 0, none⟩) 0 0) 0 []) := (by have h := own_lit0 (w7.setCell ⟨O, 17, none⟩ (.slice z3 a.cn q3)) 72 5; simp at h; exact h); clear ho3 hg3 hk3 hl3 hb7 HB7 HO7 HX7 HR7 HOW3 HBS2 HOS2 HXS2 HRS2; have HBP : Hid (Below w.heap.size w ((w7.setCell ⟨O, 17, none⟩ (.slice z3 a.cn q3)).alloc (.cells #[] 72))) := HBS3.out.alloc HBS3.out.size _; have hbp : Below ((w7.setCell ⟨O, 17, none⟩ (.slice z3 a.cn q3))).heap.size ((w7.setCell ⟨O, 17, none⟩ (.slice z3 a.cn q3))) ((w7.setCell ⟨O, 17, none⟩ (.slice z3 a.cn q3)).alloc (.cells #[] 72)) := (Below.refl _ _).alloc (Nat.le_refl _) _; have HOP : Hid (TBx ((w7.setCell ⟨O, 17, none⟩ (.slice z3 a.cn q3)).alloc (.cells #[] 72)) O t ⟨a.pa, a.pn, a.pc, z2, a.dn, q2, z3, a.cn, q3, z1, zn, q1, a.Y⟩) := HOS3.out.below hbp; have HXP : Hid (TBx ((w7.setCell ⟨O, 17, none⟩ (.slice z3 a.cn q3)).alloc (.cells #[] 72)) w.heap.size t a) := HXS3.out.below hbp; have HRP : Hid (((w7.setCell ⟨O, 17, none⟩ (.slice z3 a.cn q3)).alloc (.cells #[] 72)).heap[w.heap.size + 1]? = some (.cells #[.int .i64 0, .int .i64 0, .int .i64 0, .int .i64 0, .int .i64 0, .int .i64 0, .int .i64 0, .int .i64 0, .int .i64 0, .int .i64 0, .int .i64 0, .int .i64 0, .int .i64 0, .int .i64 0, .int .i64 0, .slice none 0 0, .slice none 0 0, .slice none 0 0, .slice none 0 0] 33 (0, 0))) := row_below HRS3.out hbp; have ko15 : ((w7.setCell ⟨O, 17, none⟩ (.slice z3 a.cn q3)).alloc (.cells #[] 72)).cell? ⟨O, 15, none⟩ = some (.slice a.pa a.pn a.pc) := HOP.out.cell 15 rfl; have kf15 : ((w7.setCell ⟨O, 17, none⟩ (.slice z3 a.cn q3)).alloc (.cells #[] 72)).frozen? ⟨O, 15, none⟩ = false := tbx_free HOP.out _; have hzp : ((w7.setCell ⟨O, 17, none⟩ (.slice z3 a.cn q3))).heap.size = w7.heap.size := (by simp); have HP1 : Hid (LS 3 W4.heap.size w5.heap.size ((w7.setCell ⟨O, 17, none⟩ (.slice z3 a.cn q3)).alloc (.cells #[] 72)) z1 zn (slX zs)) := HL1.out.low hbp (by rw [hzp]; exact Nat.le_trans HSZ2.out HSZ3.out); have HP2 : Hid (LS 1 w5.heap.size w6.heap.size ((w7.setCell ⟨O, 17, none⟩ (.slice z3 a.cn q3)).alloc (.cells #[] 72)) z2 a.dn (inX t.ds)) := HL2.out.low hbp (by rw [hzp]; exact HSZ3.out); have HP3 : Hid (LS 4 w6.heap.size w7.heap.size ((w7.setCell ⟨O, 17, none⟩ (.slice z3 a.cn q3)).alloc (.cells #[] 72)) z3 a.cn (chX t.cs)) := HL3.out.low hbp (Nat.le_of_eq hzp.symm); have HOPL : Hid (O < w7.heap.size) := (by have := HOL.out; have := HSZ1.out; have := HSZ2.out; have := HSZ3.out; show _ < _; omega); have HBT : Hid (Below w.heap.size w (((w7.setCell ⟨O, 17, none⟩ (.slice z3 a.cn q3)).alloc (.cells #[] 72)).setCell ⟨O, 15, none⟩ (.slice (some ⟨w7.heap.size, 0, none⟩) 0 0))) := HBP.out.setCell (p := ⟨O, 15, none⟩) (by show w.heap.size ≤ O; have := HO.out; omega) _; have HOT : Hid (TBx (((w7.setCell ⟨O, 17, none⟩ (.slice z3 a.cn q3)).alloc (.cells #[] 72)).setCell ⟨O, 15, none⟩ (.slice (some ⟨w7.heap.size, 0, none⟩) 0 0)) O t ⟨some ⟨w7.heap.size, 0, none⟩, 0, 0, z2, a.dn, q2, z3, a.cn, q3, z1, zn, q1, a.Y⟩) := tbx_set HOP.out 15 _ rfl; have HXT : Hid (TBx (((w7.setCell ⟨O, 17, none⟩ (.slice z3 a.cn q3)).alloc (.cells #[] 72)).setCell ⟨O, 15, none⟩ (.slice (some ⟨w7.heap.size, 0, none⟩) 0 0)) w.heap.size t a) := HXP.out.set_other (by have := HO.out; omega); have HRT : Hid ((((w7.setCell ⟨O, 17, none⟩ (.slice z3 a.cn q3)).alloc (.cells #[] 72)).setCell ⟨O, 15, none⟩ (.slice (some ⟨w7.heap.size, 0, none⟩) 0 0)).heap[w.heap.size + 1]? = some (.cells #[.int .i64 0, .int .i64 0, .int .i64 0, .int .i64 0, .int .i64 0, .int .i64 0, .int .i64 0, .int .i64 0, .int .i64 0, .int .i64 0, .int .i64 0, .int .i64 0, .int .i64 0, .int .i64 0, .int .i64 0, .slice none 0 0, .slice none 0 0, .slice none 0 0, .slice none 0 0] 33 (0, 0))) := (block_set_other _ _ _ _ _ (by have := HO.out; omega)).trans HRP.out; have HT1 : Hid (LS 3 W4.heap.size w5.heap.size (((w7.setCell ⟨O, 17, none⟩ (.slice z3 a.cn q3)).alloc (.cells #[] 72)).setCell ⟨O, 15, none⟩ (.slice (some ⟨w7.heap.size, 0, none⟩) 0 0)) z1 zn (slX zs)) := HP1.out.set (Or.inl HOL.out); have HT2 : Hid (LS 1 w5.heap.size w6.heap.size (((w7.setCell ⟨O, 17, none⟩ (.slice z3 a.cn q3)).alloc (.cells #[] 72)).setCell ⟨O, 15, none⟩ (.slice (some ⟨w7.heap.size, 0, none⟩) 0 0)) z2 a.dn (inX t.ds)) := HP2.out.set (Or.inl (by have := HOL.out; have := HSZ1.out; omega)); have HT3 : Hid (LS 4 w6.heap.size w7.heap.size (((w7.setCell ⟨O, 17, none⟩ (.slice z3 a.cn q3)).alloc (.cells #[] 72)).setCell ⟨O, 15, none⟩ (.slice (some ⟨w7.heap.size, 0, none⟩) 0 0)) z3 a.cn (chX t.cs)) := HP3.out.set (Or.inl (by have := HOL.out; have := HSZ1.out; have := HSZ2.out; omega)); have HOWT : Hid ((((w7.setCell ⟨O, 17, none⟩ (.slice z3 a.cn q3)).alloc (.cells #[] 72)).setCell ⟨O, 15, none⟩ (.slice (some ⟨w7.heap.size, 0, none⟩) 0 0)).ownsRow w7.heap.size 72 5 (.slice (some ⟨w7.heap.size, 0, none⟩) 0 0) 0 []) := own_far HOW4.out (fun k hk => by simp [Value.ownBlock] at hk; subst hk; exact block_set_other _ _ _ _ _ (by have := HOPL.out; omega)); clear hzp hbp HBP HOP HXP HRP HP1 HP2 HP3 HOW4 HBS3 HOS3 HXS3 HRS3 HL1 HL2 HL3) | fail)
  revert HBT HOT HXT HRT HT1 HT2 HT3 HOWT HOPL HSZ1 HSZ2 HSZ3 HOL
  generalize (((w7.setCell ⟨O, 17, none⟩ (.slice z3 a.cn q3)).alloc (.cells #[] 72)).setCell ⟨O, 15, none⟩ (.slice (some ⟨w7.heap.size, 0, none⟩) 0 0)) = W8
  generalize w7.heap.size = PB
  generalize w6.heap.size = L3
  generalize w5.heap.size = L2
  generalize W4.heap.size = L1
  intro HOL HSZ1 HSZ2 HSZ3 HOPL HBT HOT HXT HRT HT1 HT2 HT3 HOWT
  have HPL : Hid (PB < W8.heap.size) := (own_ge HOWT.out PB rfl).2
  go_loopw [6] (fun vi wr => ∃ (i cap : Nat) (A : Option Addr) (wf : Nat → Option Addr) (cf : Nat → Nat), i ≤ a.pn ∧ vi = .int .i64 i ∧ i ≤ cap ∧ Hid (Below w.heap.size w wr) ∧ Hid (TBx wr w.heap.size t a) ∧ Hid (wr.heap[w.heap.size + 1]? = some (.cells #[.int .i64 0, .int .i64 0, .int .i64 0, .int .i64 0, .int .i64 0, .int .i64 0, .int .i64 0, .int .i64 0, .int .i64 0, .int .i64 0, .int .i64 0, .int .i64 0, .int .i64 0, .int .i64 0, .int .i64 0, .slice none 0 0, .slice none 0 0, .slice none 0 0, .slice none 0 0] 33 (0, 0))) ∧ Hid (TBx wr O t ⟨A, i, cap, z2, a.dn, q2, z3, a.cn, q3, z1, zn, q1, a.Y⟩) ∧ Hid (wr.ownsRow PB 72 5 (.slice A i cap) i (gcat (fun j => rwL ⟨(a.Y j).nm, (a.Y j).en, (a.Y j).kd, (a.Y j).ms, wf j, (a.Y j).wn, cf j⟩) i)) ∧ Hid (∀ j, j < i → (a.Y j).wn ≤ cf j ∧ LS 3 PB wr.heap.size wr (wf j) (a.Y j).wn (wiX (t.ps.getD j pt0).ws) ∧ (0 < (a.Y j).wn → ∀ b o, wf j = some ⟨b, o, none⟩ → (Value.slice A i cap).ownBlock ≠ some b)) ∧ Hid (LS 3 L1 L2 wr z1 zn (slX zs)) ∧ Hid (LS 1 L2 L3 wr z2 a.dn (inX t.ds)) ∧ Hid (LS 4 L3 PB wr z3 a.cn (chX t.cs)) ∧ Hid (PB < wr.heap.size)) (fun vi _ => a.pn - (intOf vi).toNat)
  case atStart => exact ⟨0, 0, some ⟨PB, 0, none⟩, fun _ => none, fun _ => 0, by omega, rfl, by omega, HBT.out, HXT.out, HRT.out, HOT.out, HOWT.out, fun j hj => absurd hj (Nat.not_lt_zero j), HT1.out, HT2.out, HT3.out, HPL.out⟩
  case round =>
    clear HBT HXT HRT HOT HOWT HT1 HT2 HT3 HPL
    obtain ⟨i, cap, A, wf, cf, hi, rfl, hic, HB, HX, HR, HOB, HOW, HWN, HL1, HL2, HL3, HPB⟩ := hrel
    have k15 : wr.cell? ⟨w.heap.size, 15, none⟩ = some (.slice a.pa a.pn a.pc) := HX.out.cell 15 rfl
    by_cases hlt : i < a.pn
    rotate_left
    · obtain rfl : i = a.pn := by omega
      have hni : ¬ ((a.pn : Int) < (a.pn : Int)) := by omega
      obtain ⟨A2, cap2, eA, hc2, hlp⟩ := own_ls (k := 5) (fun j _ => rfl) HOW.out
      cases eA
      obtain ⟨af, HAF⟩ : ∃ af : Ad, Hid (af = ⟨A, a.pn, cap, z2, a.dn, q2, z3, a.cn, q3, z1, zn, q1, fun j => ⟨(a.Y j).nm, (a.Y j).en, (a.Y j).kd, (a.Y j).ms, wf j, (a.Y j).wn, cf j⟩⟩) := ⟨_, rfl⟩
      have HOF : Hid (wr.heap[O]? = some (.cells (tbA t af) 33 (0, 0))) := by
        have h := HOB.out
        show _ = _
        rw [HAF.out]
        exact h
      have hT0 : w.heap.size + 2 ≤ L1 := by have := HOL.out; have := HO.out; omega
      have HKT : Hid (KT (w.heap.size + 2) wr.heap.size wr { t with ss := zs } af) := by
        show KT _ _ _ _ _
        rw [HAF.out]
        have h1 := HSZ1.out
        have h2 := HSZ2.out
        have h3 := HSZ3.out
        have h4 := HPB.out
        refine ⟨hlp.wide (by omega) (Nat.le_refl _), fun j hj => ?_, fun j hj => ((HWN.out j hj).2.1).wide (by omega) (Nat.le_refl _), HL2.out.wide (by omega) (by omega), HL3.out.wide (by omega) (by omega), HL1.out.wide (by omega) (by omega)⟩
        have g := (HMM.out wr HB.out).1.p.p2 j hj
        exact ⟨g.nm, g.en, g.kd, g.ms, g.ln, (HWN.out j hj).1⟩
      have HFW : Hid (TW { t with ss := zs } af ∧ TS af ∧ af.pn = a.pn ∧ af.dn = a.dn ∧ af.cn = a.cn ∧ af.sn = zn) := by
        show _ ∧ _
        rw [HAF.out]
        exact ⟨⟨HTW.out.pl, HTW.out.dl, HTW.out.cl, HZF.out.1, HTW.out.pb, HTW.out.db, HTW.out.cb, (by show zn ≤ _; omega), HTW.out.wb, HTW.out.wf, HZF.out.2⟩, ⟨HTS.out.p, HTS.out.d, HTS.out.c, hzn, HTS.out.w⟩, rfl, rfl, rfl, rfl⟩
      have HRF : Hid ((wr.setRow (w.heap.size + 1) (tbA t af)).heap[w.heap.size + 1]? = some (.cells (tbA t af) 33 (0, 0))) := setRow_heap _ _ _ _ _ _ HR.out
      have HBF : Hid (Below w.heap.size w (wr.setRow (w.heap.size + 1) (tbA t af))) := below_setRow HB.out (Nat.le_succ _) _
      have HKF : Hid (KT (w.heap.size + 2) wr.heap.size (wr.setRow (w.heap.size + 1) (tbA t af)) { t with ss := zs } af) := HKT.out.setRow (Or.inl (Nat.lt_succ_self _))
      have hsf : (wr.setRow (w.heap.size + 1) (tbA t af)).heap.size = wr.heap.size := by simp [World.setRow]
      clear hlp HKT HX HOW HWN HL1 HL2 HL3 HOB HB
      go_wp2_with (first | (refine wpList_load_row rfl 33 (.tmp 5) rfl O rfl 33 (tbA t af) (0, 0) _ HOF.out Tryz.underlying33 rfl (by kernel_rfl) ?_) | (refine wpList_store_row rfl 33 (.tmp 4) (.tmp 52) rfl (w.heap.size + 1) (tbA t af) rfl rfl 33 #[.int .i64 0, .int .i64 0, .int .i64 0, .int .i64 0, .int .i64 0, .int .i64 0, .int .i64 0, .int .i64 0, .int .i64 0, .int .i64 0, .int .i64 0, .int .i64 0, .int .i64 0, .int .i64 0, .int .i64 0, .slice none 0 0, .slice none 0 0, .slice none 0 0, .slice none 0 0] HR.out (by kernel_rfl) rfl (by simp [Value.oneCell']) ?_) | fail)
      revert HRF HBF HKF hsf
      generalize wr.setRow (w.heap.size + 1) (tbA t af) = WF
      intro HRF HBF HKF hsf
      refine bodyPost_ret (v := tbV t af) (res_scp HRF.out rfl rfl) rfl ⟨af, rfl, HBF.out, ?_, HFW.out.1, HFW.out.2.1, HFW.out.2.2⟩
      have h := HKF.out
      rw [← hsf] at h
      exact ⟨h.p.wide (by omega) (Nat.le_refl _), h.g, fun j hj => (h.v j hj).wide (by omega) (Nat.le_refl _), h.d.wide (by omega) (Nat.le_refl _), h.c.wide (by omega) (Nat.le_refl _), h.s.wide (by omega) (Nat.le_refl _)⟩
    have hlt' : (i : Int) < (a.pn : Int) := by omega
    obtain ⟨b1, o1, hpa, hbl1, p1⟩ := (HMM.out wr HB.out).1.p.p1.seg.at i hlt
    rw [hpa] at k15
    have HSW : Hid (∀ X, Below w.heap.size w X → GSeg 3 X (a.Y i).wa (a.Y i).wn (wiX (t.ps.getD i pt0).ws)) := fun X hX => ((HMM.out X hX).1.p.p2 i hlt).sg.seg
    have hwn := (HTS.out.w i hlt).1
    obtain ⟨ws, HWS⟩ : ∃ ws, Hid ((t.ps.getD i pt0).ws = ws) := ⟨_, rfl⟩
    rw [HWS.out] at HSW
    obtain ⟨y, HY⟩ : ∃ y, Hid (a.Y i = y) := ⟨_, rfl⟩
    rw [HY.out] at HSW p1 hwn
    obtain ⟨nm, en, kd, ms, wa0, wn, wc0⟩ := y
    simp only at HSW hwn
    obtain ⟨c0, c1, c2, c3, c4⟩ := rw_cells p1
    simp only at c0 c1 c2 c3 c4
    have hbw : Below wr.heap.size wr ((wr.alloc (.cells #[.string nm, .int .i64 en, .int .i64 kd, .int .i64 ms, .slice wa0 wn wc0] 72)).alloc (.cells #[] 74)) := ((Below.refl _ _).alloc (Nat.le_refl _) _).alloc (by simp) _
    have HBWL : Hid (Below w.heap.size w ((wr.alloc (.cells #[.string nm, .int .i64 en, .int .i64 kd, .int .i64 ms, .slice wa0 wn wc0] 72)).alloc (.cells #[] 74))) := HB.out.trans (hbw.mono HB.out.size)
    have m15 : ((wr.alloc (.cells #[.string nm, .int .i64 en, .int .i64 kd, .int .i64 ms, .slice wa0 wn wc0] 72)).alloc (.cells #[] 74)).cell? ⟨w.heap.size, 15, none⟩ = some (.slice (some ⟨b1, o1, none⟩) a.pn a.pc) := kept_cell hbw k15
    have m4 : ((wr.alloc (.cells #[.string nm, .int .i64 en, .int .i64 kd, .int .i64 ms, .slice wa0 wn wc0] 72)).alloc (.cells #[] 74)).cell? ⟨b1, o1 + i * 5 + 4, none⟩ = some (.slice wa0 wn wc0) := kept_cell hbw c4
    have HOWW : Hid (((wr.alloc (.cells #[.string nm, .int .i64 en, .int .i64 kd, .int .i64 ms, .slice wa0 wn wc0] 72)).alloc (.cells #[] 74)).ownsRow (wr.heap.size + 1) 74 3 (.slice (some ⟨wr.heap.size + 1, 0, none⟩) 0 0) 0 []) := (by have h := own_lit0 (wr.alloc (.cells #[.string nm, .int .i64 en, .int .i64 kd, .int .i64 ms, .slice wa0 wn wc0] 72)) 74 3; simp at h; exact h)
    clear hbw p1 hbl1 hpa
    go_wp2_with (first 
           | (at_builtin
              refine wpList_append_any rfl (.tmp 37) (.tmp 43) 70 rfl (wr.heap.size + 1) 74 iW (.agg #[.int .i64 0, .int .i64 0, .int .i64 0]) 3 24 Tryz.underlying70 HIW.out.1 HIW.out.2.1 HIW.out.2.2.1 HIW.out.2.2.2 rfl (by decide) ((.slice (some ⟨wr.heap.size + 1, 0, none⟩) 0 0)) 0 [] rfl HOWW.out wa0 wn wc0 (gcat (wiX ws) wn) rfl (gcat_len fun j _ => wiX_len ws j) (newsP_of (by decide) (fun j => wiX_len ws j) (HSW.out _ HBWL.out)) (gcat_one fun j _ => wiX_one ws j) (by unfold maxLen; omega) (by omega) (by simp) ?_
              intro vw w9 how hgw hkw; rw [Nat.zero_add, List.nil_append] at how; obtain ⟨zw, qw, rfl, hqw, hlw⟩ := own_ls (fun j _ => wiX_len ws j) how
              have hb9 : Below (wr.heap.size + 1) ((wr.alloc (.cells #[.string nm, .int .i64 en, .int .i64 kd, .int .i64 ms, .slice wa0 wn wc0] 72)).alloc (.cells #[] 74)) w9 := (Below.refl _ _).grown hgw (by simp) (fun k hk => by simp [Value.ownBlock] at hk; omega)
              have hs9 : wr.heap.size + 2 ≤ w9.heap.size := (by have := hb9.size; simp at this; omega)
              have HB9 : Hid (Below PB wr w9) := (((Below.refl PB wr).alloc (by have := HPB.out; omega) _).alloc (by have := HPB.out; simp; omega) _).trans (hb9.mono (by have := HPB.out; omega))
              have HRB : Hid (w9.heap[wr.heap.size]? = some (.cells #[.string nm, .int .i64 en, .int .i64 kd, .int .i64 ms, .slice wa0 wn wc0] 72 (0, 0))) := (hb9.block _ (by omega)).trans (row_below (new_row wr _ _ _ rfl) ((Below.refl _ _).alloc (Nat.le_refl _) _))
              have hz9 : w9.cell? ⟨wr.heap.size, 4, none⟩ = some (.slice wa0 wn wc0) := (by have h := HRB.out; simp [World.cell?, h])
              have hf9 : w9.frozen? ⟨wr.heap.size, 4, none⟩ = false := (by have h := HRB.out; simp [World.frozen?, h])
              have HRC : Hid ((w9.setCell ⟨wr.heap.size, 4, none⟩ (.slice zw wn qw)).heap[wr.heap.size]? = some (.cells #[.string nm, .int .i64 en, .int .i64 kd, .int .i64 ms, .slice zw wn qw] 72 (0, 0))) := (by have h := HRB.out; show _ = _; rw [setCell_eq_setRow w9 wr.heap.size 4 #[.string nm, .int .i64 en, .int .i64 kd, .int .i64 ms, .slice wa0 wn wc0] 72 (0, 0) _ h, setRow_heap w9 wr.heap.size _ _ 72 (0, 0) h]; rfl)
              have e0 : (w9.setCell ⟨wr.heap.size, 4, none⟩ (.slice zw wn qw)).cell? ⟨wr.heap.size, 0, none⟩ = some (.string nm) := (by have h := HRC.out; simp [World.cell?, h])
              have e1 : (w9.setCell ⟨wr.heap.size, 4, none⟩ (.slice zw wn qw)).cell? ⟨wr.heap.size, 1, none⟩ = some (.int .i64 en) := (by have h := HRC.out; simp [World.cell?, h])
              have e2 : (w9.setCell ⟨wr.heap.size, 4, none⟩ (.slice zw wn qw)).cell? ⟨wr.heap.size, 2, none⟩ = some (.int .i64 kd) := (by have h := HRC.out; simp [World.cell?, h])
              have e3 : (w9.setCell ⟨wr.heap.size, 4, none⟩ (.slice zw wn qw)).cell? ⟨wr.heap.size, 3, none⟩ = some (.int .i64 ms) := (by have h := HRC.out; simp [World.cell?, h])
              have e4 : (w9.setCell ⟨wr.heap.size, 4, none⟩ (.slice zw wn qw)).cell? ⟨wr.heap.size, 4, none⟩ = some (.slice zw wn qw) := (by have h := HRC.out; simp [World.cell?, h])
              have hb10 : Below PB wr (w9.setCell ⟨wr.heap.size, 4, none⟩ (.slice zw wn qw)) := HB9.out.setCell (p := ⟨wr.heap.size, 4, none⟩) (by have := HPB.out; show PB ≤ wr.heap.size; omega) _
              have ko : (w9.setCell ⟨wr.heap.size, 4, none⟩ (.slice zw wn qw)).cell? ⟨O, 15, none⟩ = some (.slice A i cap) := (tbx_low HOB.out hb10 HOPL.out).cell 15 rfl
              have hb11 : Below PB wr ((w9.setCell ⟨wr.heap.size, 4, none⟩ (.slice zw wn qw)).alloc (.cells #[.string nm, .int .i64 en, .int .i64 kd, .int .i64 ms, .slice zw wn qw] 72)) := hb10.alloc (by have := HPB.out; simp; omega) _
              have HOW10 : Hid (((w9.setCell ⟨wr.heap.size, 4, none⟩ (.slice zw wn qw)).alloc (.cells #[.string nm, .int .i64 en, .int .i64 kd, .int .i64 ms, .slice zw wn qw] 72)).ownsRow PB 72 5 (.slice A i cap) i (gcat (fun j => rwL ⟨(a.Y j).nm, (a.Y j).en, (a.Y j).kd, (a.Y j).ms, wf j, (a.Y j).wn, cf j⟩) i)) := own_far HOW.out (fun k hk => (by
                have hk2 := own_ge HOW.out k hk
                have h1 : ((w9.setCell ⟨wr.heap.size, 4, none⟩ (.slice zw wn qw)).alloc (.cells #[.string nm, .int .i64 en, .int .i64 kd, .int .i64 ms, .slice zw wn qw] 72)).heap[k]? = (w9.setCell ⟨wr.heap.size, 4, none⟩ (.slice zw wn qw)).heap[k]? := ((Below.refl (w9.setCell ⟨wr.heap.size, 4, none⟩ (.slice zw wn qw)).heap.size (w9.setCell ⟨wr.heap.size, 4, none⟩ (.slice zw wn qw))).alloc (Nat.le_refl _) _).block k (by simp; omega)
                rw [h1, block_set_other _ _ _ _ _ (by omega), hb9.block k (by omega)]
                exact (((Below.refl wr.heap.size wr).alloc (Nat.le_refl _) _).alloc (by simp) _).block k hk2.2))
              have HLW : Hid (LS 3 (wr.heap.size + 1) w9.heap.size w9 zw wn (wiX ws)) := hlw
              have HQW : Hid (wn ≤ qw) := hqw
              have HNW : Hid (∀ j u, (rwL ⟨nm, en, kd, ms, zw, wn, qw⟩)[j]? = some u → ((w9.setCell ⟨wr.heap.size, 4, none⟩ (.slice zw wn qw)).alloc (.cells #[.string nm, .int .i64 en, .int .i64 kd, .int .i64 ms, .slice zw wn qw] 72)).cell? ((⟨w9.heap.size, 0, none⟩ : Addr).add j) = some u) := (fun j u hj => (by rw [add_plain]; exact CellsAt.new (w9.setCell ⟨wr.heap.size, 4, none⟩ (.slice zw wn qw)) (rwL ⟨nm, en, kd, ms, zw, wn, qw⟩) 72 w9.heap.size (by simp) j u hj))
              have HB11 : Hid (Below PB wr ((w9.setCell ⟨wr.heap.size, 4, none⟩ (.slice zw wn qw)).alloc (.cells #[.string nm, .int .i64 en, .int .i64 kd, .int .i64 ms, .slice zw wn qw] 72))) := hb11
              have HS10 : Hid (((w9.setCell ⟨wr.heap.size, 4, none⟩ (.slice zw wn qw)).alloc (.cells #[.string nm, .int .i64 en, .int .i64 kd, .int .i64 ms, .slice zw wn qw] 72)).heap.size = w9.heap.size + 1 ∧ wr.heap.size + 2 ≤ w9.heap.size) := ⟨(by simp), hs9⟩
              have HB9L : Hid (Below (wr.heap.size + 1) ((wr.alloc (.cells #[.string nm, .int .i64 en, .int .i64 kd, .int .i64 ms, .slice wa0 wn wc0] 72)).alloc (.cells #[] 74)) w9) := hb9
              clear how hgw hkw hlw hqw hb9 hs9 hb10 hb11 HRB HRC HB9 HOWW
              have HGC : Hid (∀ (X : World) (v : Value), X.ownsRow PB 72 5 v (i + 1) (gcat (fun j => rwL ⟨(a.Y j).nm, (a.Y j).en, (a.Y j).kd, (a.Y j).ms, wf j, (a.Y j).wn, cf j⟩) i ++ rwL ⟨nm, en, kd, ms, zw, wn, qw⟩) → X.ownsRow PB 72 5 v (i + 1) (gcat (fun j => rwL ⟨(a.Y j).nm, (a.Y j).en, (a.Y j).kd, (a.Y j).ms, (if j = i then zw else wf j), (a.Y j).wn, (if j = i then qw else cf j)⟩) (i + 1))) := (fun X v h => (by have e1 : gcat (fun j => rwL ⟨(a.Y j).nm, (a.Y j).en, (a.Y j).kd, (a.Y j).ms, (if j = i then zw else wf j), (a.Y j).wn, (if j = i then qw else cf j)⟩) i = gcat (fun j => rwL ⟨(a.Y j).nm, (a.Y j).en, (a.Y j).kd, (a.Y j).ms, wf j, (a.Y j).wn, cf j⟩) i := gcat_congr (fun j hj => (by simp only [if_neg (show ¬ j = i by omega)])); have e2 : (fun j => rwL ⟨(a.Y j).nm, (a.Y j).en, (a.Y j).kd, (a.Y j).ms, (if j = i then zw else wf j), (a.Y j).wn, (if j = i then qw else cf j)⟩) i = rwL ⟨nm, en, kd, ms, zw, wn, qw⟩ := (by simp only [HY.out, if_true]); have e3 : gcat (fun j => rwL ⟨(a.Y j).nm, (a.Y j).en, (a.Y j).kd, (a.Y j).ms, (if j = i then zw else wf j), (a.Y j).wn, (if j = i then qw else cf j)⟩) (i + 1) = gcat (fun j => rwL ⟨(a.Y j).nm, (a.Y j).en, (a.Y j).kd, (a.Y j).ms, wf j, (a.Y j).wn, cf j⟩) i ++ rwL ⟨nm, en, kd, ms, zw, wn, qw⟩ := congr (congrArg HAppend.hAppend e1) e2; rw [e3]; exact h)))
           | (at_builtin
              refine wpList_append_any rfl (.tmp 47) (.tmp 49) 28 rfl PB 72 iP (.agg #[.string ByteArray.empty, .int .i64 0, .int .i64 0, .int .i64 0, .slice none 0 0]) 5 64 Tryz.underlying28 HIP.out.1 HIP.out.2.1 HIP.out.2.2.1 HIP.out.2.2.2 rfl (by decide) ((.slice A i cap)) i (gcat (fun j => rwL ⟨(a.Y j).nm, (a.Y j).en, (a.Y j).kd, (a.Y j).ms, wf j, (a.Y j).wn, cf j⟩) i) rfl HOW10.out (some ⟨w9.heap.size, 0, none⟩) 1 1 (rwL ⟨nm, en, kd, ms, zw, wn, qw⟩) rfl rfl (fun _ => ⟨_, rfl, HNW.out⟩) (rwX_one (fun _ => ⟨nm, en, kd, ms, zw, wn, qw⟩) 0) (by unfold maxLen; omega) (by omega) (by have := HS10.out; have := HPB.out; omega) ?_
              intro vp w11 hop hgp hkp; obtain ⟨A2, cap2, rfl, hc2, hlp2⟩ := own_ls (k := 5) (X := (fun j => rwL ⟨(a.Y j).nm, (a.Y j).en, (a.Y j).kd, (a.Y j).ms, (if j = i then zw else wf j), (a.Y j).wn, (if j = i then qw else cf j)⟩)) (fun j _ => rfl) (HGC.out w11 vp hop)
              have hown11 := HGC.out w11 _ hop
              have hkA := own_ge HOW.out
              have hb12 : Below PB wr w11 := HB11.out.grown hgp (by have := HS10.out; have := HPB.out; omega) (fun k hk => (hkA k hk).1)
              have hs11 : ((w9.setCell ⟨wr.heap.size, 4, none⟩ (.slice zw wn qw)).alloc (.cells #[.string nm, .int .i64 en, .int .i64 kd, .int .i64 ms, .slice zw wn qw] 72)).heap.size ≤ w11.heap.size := hgp.size
              have HOB11 : Hid (TBx w11 O t ⟨A, i, cap, z2, a.dn, q2, z3, a.cn, q3, z1, zn, q1, a.Y⟩) := tbx_low HOB.out hb12 HOPL.out
              have ko11 : w11.cell? ⟨O, 15, none⟩ = some (.slice A i cap) := HOB11.out.cell 15 rfl
              have kf11 : w11.frozen? ⟨O, 15, none⟩ = false := tbx_free HOB11.out _
              have hOT : w.heap.size + 1 < O := (by have := HO.out; omega)
              have hOP := HOPL.out
              have HBE : Hid (Below w.heap.size w (w11.setCell ⟨O, 15, none⟩ (.slice A2 (i + 1) cap2))) := (HB.out.trans (hb12.mono (by omega))).setCell (p := ⟨O, 15, none⟩) (by show w.heap.size ≤ O; omega) _
              have HXE : Hid (TBx (w11.setCell ⟨O, 15, none⟩ (.slice A2 (i + 1) cap2)) w.heap.size t a) := (tbx_low HX.out hb12 (by omega)).set_other (by omega)
              have HRE : Hid ((w11.setCell ⟨O, 15, none⟩ (.slice A2 (i + 1) cap2)).heap[w.heap.size + 1]? = some (.cells #[.int .i64 0, .int .i64 0, .int .i64 0, .int .i64 0, .int .i64 0, .int .i64 0, .int .i64 0, .int .i64 0, .int .i64 0, .int .i64 0, .int .i64 0, .int .i64 0, .int .i64 0, .int .i64 0, .int .i64 0, .slice none 0 0, .slice none 0 0, .slice none 0 0, .slice none 0 0] 33 (0, 0))) := (block_set_other _ _ _ _ _ (by omega)).trans ((hb12.block _ (by omega)).trans HR.out)
              have HOE : Hid (TBx (w11.setCell ⟨O, 15, none⟩ (.slice A2 (i + 1) cap2)) O t ⟨A2, i + 1, cap2, z2, a.dn, q2, z3, a.cn, q3, z1, zn, q1, a.Y⟩) := tbx_set HOB11.out 15 _ rfl
              have HOWE : Hid ((w11.setCell ⟨O, 15, none⟩ (.slice A2 (i + 1) cap2)).ownsRow PB 72 5 (.slice A2 (i + 1) cap2) (i + 1) (gcat (fun j => rwL ⟨(a.Y j).nm, (a.Y j).en, (a.Y j).kd, (a.Y j).ms, (if j = i then zw else wf j), (a.Y j).wn, (if j = i then qw else cf j)⟩) (i + 1))) := own_far hown11 (fun k hk => block_set_other _ _ _ _ _ (by have := (own_ge hown11 k hk).1; omega))
              have hzE : (w11.setCell ⟨O, 15, none⟩ (.slice A2 (i + 1) cap2)).heap.size = w11.heap.size := (by simp)
              have far : ∀ b, b < ((w9.setCell ⟨wr.heap.size, 4, none⟩ (.slice zw wn qw)).alloc (.cells #[.string nm, .int .i64 en, .int .i64 kd, .int .i64 ms, .slice zw wn qw] 72)).heap.size → (Value.slice A i cap).ownBlock ≠ some b → O ≠ b → (w11.setCell ⟨O, 15, none⟩ (.slice A2 (i + 1) cap2)).heap[b]? = ((w9.setCell ⟨wr.heap.size, 4, none⟩ (.slice zw wn qw)).alloc (.cells #[.string nm, .int .i64 en, .int .i64 kd, .int .i64 ms, .slice zw wn qw] 72)).heap[b]? := (fun b h1 h2 h3 => (block_set_other _ _ _ _ _ h3).trans (hgp.block b h1 (fun e => h2 e.symm)))
              have far9 : ∀ b, wr.heap.size < b → b < w9.heap.size → ((w9.setCell ⟨wr.heap.size, 4, none⟩ (.slice zw wn qw)).alloc (.cells #[.string nm, .int .i64 en, .int .i64 kd, .int .i64 ms, .slice zw wn qw] 72)).heap[b]? = w9.heap[b]? := (fun b h1 h2 => (((Below.refl (w9.setCell ⟨wr.heap.size, 4, none⟩ (.slice zw wn qw)).heap.size (w9.setCell ⟨wr.heap.size, 4, none⟩ (.slice zw wn qw))).alloc (Nat.le_refl _) _).block b (by simp; omega)).trans (block_set_other _ _ _ _ _ (by omega)))
              have far0 : ∀ b, b < wr.heap.size → ((w9.setCell ⟨wr.heap.size, 4, none⟩ (.slice zw wn qw)).alloc (.cells #[.string nm, .int .i64 en, .int .i64 kd, .int .i64 ms, .slice zw wn qw] 72)).heap[b]? = wr.heap[b]? := (fun b h1 => ((((Below.refl (w9.setCell ⟨wr.heap.size, 4, none⟩ (.slice zw wn qw)).heap.size (w9.setCell ⟨wr.heap.size, 4, none⟩ (.slice zw wn qw))).alloc (Nat.le_refl _) _).block b (by have := HS10.out; simp; omega)).trans (block_set_other _ _ _ _ _ (by omega))).trans ((HB9L.out.block b (by omega)).trans ((((Below.refl wr.heap.size wr).alloc (Nat.le_refl _) _).alloc (by simp) _).block b h1)))
              have hs10 := HS10.out
              have HWE : Hid (∀ j, j < i + 1 → (a.Y j).wn ≤ (if j = i then qw else cf j) ∧ LS 3 PB (w11.setCell ⟨O, 15, none⟩ (.slice A2 (i + 1) cap2)).heap.size (w11.setCell ⟨O, 15, none⟩ (.slice A2 (i + 1) cap2)) (if j = i then zw else wf j) (a.Y j).wn (wiX (t.ps.getD j pt0).ws) ∧ (0 < (a.Y j).wn → ∀ b o, (if j = i then zw else wf j) = some ⟨b, o, none⟩ → (Value.slice A2 (i + 1) cap2).ownBlock ≠ some b)) := (fun j hj => (by
                by_cases e : j = i
                · rw [e, if_pos rfl, if_pos rfl, HY.out, HWS.out]
                  refine ⟨HQW.out, ?_, fun h0 b o eb hbk => ?_⟩
                  · refine ((HLW.out).far (w' := (w11.setCell ⟨O, 15, none⟩ (.slice A2 (i + 1) cap2))) (by rw [hzE]; omega) fun b o eb h1 h2 => ?_).wide (by have := HPB.out; omega) (by rw [hzE]; omega)
                    exact (far b (by omega) (fun h => (by have := (hkA b h).2; omega)) (by have := HPB.out; omega)).trans (far9 b (by omega) h2)
                  · obtain ⟨b2, o2, e2, r1, r2, _⟩ := HLW.out.2 h0
                    have e3 := eb.symm.trans e2
                    cases e3
                    rcases hkp b hbk with h | h
                    · have := (hkA b h).2; omega
                    · omega
                · rw [if_neg e, if_neg e]
                  have hw := HWN.out j (by omega)
                  refine ⟨hw.1, ?_, fun h0 b o eb hbk => ?_⟩
                  · by_cases h0 : 0 < (a.Y j).wn
                    · refine (hw.2.1.far (w' := (w11.setCell ⟨O, 15, none⟩ (.slice A2 (i + 1) cap2))) (by rw [hzE]; omega) fun b o eb h1 h2 => ?_).wide (Nat.le_refl _) (by rw [hzE]; omega)
                      exact (far b (by omega) (hw.2.2 h0 b o eb) (by omega)).trans (far0 b h2)
                    · exact ⟨fun h => absurd h h0, fun h => absurd h h0⟩
                  · obtain ⟨b2, o2, e2, r1, r2, _⟩ := hw.2.1.2 h0
                    have e3 := eb.symm.trans e2
                    cases e3
                    rcases hkp b hbk with h | h
                    · exact hw.2.2 h0 b o eb h
                    · omega))
              have HE1 : Hid (LS 3 L1 L2 (w11.setCell ⟨O, 15, none⟩ (.slice A2 (i + 1) cap2)) z1 zn (slX zs)) := (HL1.out.low hb12 (by have := HSZ2.out; have := HSZ3.out; omega)).set (Or.inl HOL.out)
              have HE2 : Hid (LS 1 L2 L3 (w11.setCell ⟨O, 15, none⟩ (.slice A2 (i + 1) cap2)) z2 a.dn (inX t.ds)) := (HL2.out.low hb12 HSZ3.out).set (Or.inl (by have := HSZ1.out; have := HOL.out; omega))
              have HE3 : Hid (LS 4 L3 PB (w11.setCell ⟨O, 15, none⟩ (.slice A2 (i + 1) cap2)) z3 a.cn (chX t.cs)) := (HL3.out.low hb12 (Nat.le_refl _)).set (Or.inl (by have := HSZ1.out; have := HSZ2.out; have := HOL.out; omega))
              have HPE : Hid (PB < (w11.setCell ⟨O, 15, none⟩ (.slice A2 (i + 1) cap2)).heap.size) := (by have := HPB.out; show _ < _; rw [hzE]; omega)
              have HC2 : Hid (i + 1 ≤ cap2) := hc2
              clear hop hgp hkp hlp2 hown11 hkA hb12 hs11 hOT hOP far far9 far0 hs10 hzE hc2 HOB11)
           | fail)
    go_roundw
    case rel => exact ⟨i + 1, cap2, A2, fun j => if j = i then zw else wf j, fun j => if j = i then qw else cf j, by omega, by first | rfl | go_num, HC2.out, HBE.out, HXE.out, HRE.out, HOE.out, HOWE.out, HWE.out, HE1.out, HE2.out, HE3.out, HPE.out⟩
    case measure => simp [intOf]; omega
end Go.Proofs.YtlomcdgfcocmmaaGreatDoor
namespace Go.Proofs.YtlomcdgfcocmmaaGreatDoor
open Go.ChangeShapes Go.WideShapes Go.ChangeAt Go.RowKit Go.Deep Go.Joins
set_option linter.unusedVariables false

theorem LS.below {k lo hi n : Nat} {w w' : World} {a : Option Addr} {X : Nat → List Value} (h : LS k lo hi w a n X) (hb : Below w.heap.size w w') : LS k lo hi w' a n X := ⟨h.1.below hb, h.2.below hb⟩
theorem KT.below {lo hi : Nat} {w w' : World} {t : Tb} {a : Ad} (h : KT lo hi w t a) (hb : Below w.heap.size w w') : KT lo hi w' t a :=
  ⟨h.p.below hb, h.g, fun i hi => (h.v i hi).below hb, h.d.below hb, h.c.below hb, h.s.below hb⟩
/-- No tables. -/
def tz : Tb := ⟨0, 0, 0, 0, 0, 0, 0, 0, 0, 0, 0, 0, 0, 0, 0, [], [], [], []⟩
def az : Ad := ⟨none, 0, 0, none, 0, 0, none, 0, 0, none, 0, 0, fun _ => ⟨ByteArray.empty, 0, 0, 0, none, 0, 0⟩⟩
theorem kt_zero (lo hi : Nat) (w : World) : KT lo hi w tz az :=
  ⟨⟨fun h => absurd h (Nat.lt_irrefl 0), fun h => absurd h (Nat.lt_irrefl 0)⟩, fun i hi => absurd hi (Nat.not_lt_zero i), fun i hi => absurd hi (Nat.not_lt_zero i), ⟨fun h => absurd h (Nat.lt_irrefl 0), fun h => absurd h (Nat.lt_irrefl 0)⟩, ⟨fun h => absurd h (Nat.lt_irrefl 0), fun h => absurd h (Nat.lt_irrefl 0)⟩, ⟨fun h => absurd h (Nat.lt_irrefl 0), fun h => absurd h (Nat.lt_irrefl 0)⟩⟩
theorem tw_zero : TW tz az := ⟨rfl, rfl, rfl, rfl, by decide, by decide, by decide, by decide, fun i hi => absurd hi (Nat.not_lt_zero i), fun i hi => absurd hi (Nat.not_lt_zero i), fun i hi => absurd hi (Nat.not_lt_zero i)⟩
theorem ts_zero : TS az := ⟨by decide, by decide, by decide, by decide, fun i hi => absurd hi (Nat.not_lt_zero i)⟩
/-- Slot x can be split behind its first f cycles. -/
def CanS (t : Tb) (x f : Int) : Prop := Sd t ∧ (0 ≤ x ∧ x < (t.ss.length : Int)) ∧ t.ss.length < 16 ∧ t.pad + t.grd < f ∧ t.pad + t.grd < (t.ss.getD x.toNat sl0).2.2 - f
/-- The slots behind the split. -/
def splL (ss : List slT) (k : Nat) (f : Int) : List slT := ss.take k ++ [((ss.getD k sl0).1, (ss.getD k sl0).2.1, f), ((ss.getD k sl0).1, (ss.getD k sl0).2.1 + f, (ss.getD k sl0).2.2 - f)] ++ ss.drop (k + 1)
/-- The first m of the list that grows: whole slots, and two for slot k. -/
def splM (ss : List slT) (k : Nat) (f : Int) : Nat → List slT
  | 0 => []
  | m + 1 => splM ss k f m ++ (if m = k then [((ss.getD k sl0).1, (ss.getD k sl0).2.1, f), ((ss.getD k sl0).1, (ss.getD k sl0).2.1 + f, (ss.getD k sl0).2.2 - f)] else [ss.getD m sl0])
theorem splM_len (ss : List slT) (k : Nat) (f : Int) : ∀ m, (splM ss k f m).length = m + (if k < m then 1 else 0)
  | 0 => by simp [splM]
  | m + 1 => by
    rw [splM, List.length_append, splM_len ss k f m]
    by_cases e : m = k
    · subst e
      rw [if_pos rfl, if_neg (Nat.lt_irrefl m), if_pos (Nat.lt_succ_self m)]
      rfl
    · rw [if_neg e]
      by_cases g : k < m
      · rw [if_pos g, if_pos (by omega)]
        simp
        try omega
      · rw [if_neg g, if_neg (by omega)]
        simp
theorem take_snocS {ss : List slT} {m : Nat} (h : m < ss.length) : ss.take m ++ [ss.getD m sl0] = ss.take (m + 1) := by
  have e : ss.getD m sl0 = ss[m] := by simp [List.getD, h]
  rw [e]
  exact (List.take_append_getElem h)
theorem splM_lo {ss : List slT} {k : Nat} {f : Int} : ∀ m, m ≤ k → m ≤ ss.length → splM ss k f m = ss.take m
  | 0, _, _ => by simp [splM]
  | m + 1, h, hl => by rw [splM, splM_lo m (by omega) (by omega), if_neg (by omega), take_snocS (by omega)]
theorem splM_all {ss : List slT} {k : Nat} {f : Int} (hk : k < ss.length) : splM ss k f ss.length = splL ss k f := by
  have key : ∀ m, k < m → m ≤ ss.length → splM ss k f m = ss.take k ++ [((ss.getD k sl0).1, (ss.getD k sl0).2.1, f), ((ss.getD k sl0).1, (ss.getD k sl0).2.1 + f, (ss.getD k sl0).2.2 - f)] ++ (ss.take m).drop (k + 1) := by
    intro m
    induction m with
    | zero => intro h; omega
    | succ m ih =>
      intro h1 h2
      by_cases e : m = k
      · subst e
        rw [splM, splM_lo m (Nat.le_refl _) (by omega), if_pos rfl, List.drop_eq_nil_of_le (by simp; omega), List.append_nil]
      · rw [splM, ih (by omega) (by omega), if_neg e, ← take_snocS (by omega : m < ss.length), List.drop_append_of_le_length (by simp; omega)]
        simp
  rw [key _ hk (Nat.le_refl _), List.take_length]
  rfl
theorem splM_rng {t : Tb} (h : Tm t) {k : Nat} {f : Int} (hk : k < t.ss.length) (hf : 0 ≤ f) (hf2 : f ≤ 5000) : ∀ m, m ≤ t.ss.length → ∀ i, i < (splM t.ss k f m).length → 0 ≤ ((splM t.ss k f m).getD i sl0).2.1 ∧ ((splM t.ss k f m).getD i sl0).2.1 ≤ 10000 := by
  have hs := h.st k hk
  have he := h.en k hk
  have hl := h.ln k hk
  have hm := h.maj2
  have hp := h.pad1
  have hg := h.grd1
  intro m
  induction m with
  | zero => intro _ i hi; simp [splM] at hi
  | succ m ih =>
    intro hm2 i hi
    rw [splM] at hi ⊢
    by_cases c : i < (splM t.ss k f m).length
    · have := ih (by omega) i c
      rw [List.getD, List.getElem?_append_left c, ← List.getD]
      exact this
    · rw [List.getD, List.getElem?_append_right (by omega)]
      generalize i - (splM t.ss k f m).length = j at *
      by_cases e : m = k
      · rw [if_pos e] at hi ⊢
        match j with
        | 0 => exact ⟨hs, by show (t.ss.getD k sl0).2.1 ≤ 10000; omega⟩
        | 1 => exact ⟨by show 0 ≤ (t.ss.getD k sl0).2.1 + f; omega, by show (t.ss.getD k sl0).2.1 + f ≤ 10000; omega⟩
        | j + 2 => exact ⟨Int.le_refl 0, by show (0 : Int) ≤ 10000; omega⟩
      · rw [if_neg e] at hi ⊢
        have h1 := h.st m (by omega)
        have h2 := h.en m (by omega)
        have h3 := h.ln m (by omega)
        match j with
        | 0 => exact ⟨h1, by show (t.ss.getD m sl0).2.1 ≤ 10000; omega⟩
        | j + 1 => exact ⟨Int.le_refl 0, by show (0 : Int) ≤ 10000; omega⟩
theorem slX_app (xs ys : List slT) : gcat (slX (xs ++ ys)) (xs ++ ys).length = gcat (slX xs) xs.length ++ gcat (slX ys) ys.length := by
  rw [gcat_app, List.length_append]
  refine gcat_congr fun i hi => ?_
  by_cases c : i < xs.length
  · rw [if_pos c]
    simp only [slX, List.getD, List.getElem?_append_left c]
  · rw [if_neg c]
    simp only [slX, List.getD, List.getElem?_append_right (show xs.length ≤ i by omega)]
end Go.Proofs.YtlomcdgfcocmmaaGreatDoor
namespace Go.Proofs.YtlomcdgfcocmmaaGreatDoor
open Go.ChangeShapes Go.WideShapes Go.ChangeAt Go.RowKit Go.Deep Go.Joins
set_option linter.unusedVariables false

/-- What Split answers. -/
def SpA (t : Tb) (x f : Int) (R : Tb) (q : Bool) : Prop := (¬ CanS t x f ∧ R = tz ∧ q = false) ∨ (CanS t x f ∧ R = { t with ss := splL t.ss x.toNat f } ∧ q = true)
theorem res_ssw {W : World} {B : Nat} {cs : Array Value} {b : Bool} {tmps : Array Value} (h : W.heap[B]? = some (.cells cs 33 (0, 0))) (hl : cs.size = 19) (ht : tmps[6]? = some (.pointer (some ⟨B, 0, none⟩))) (hq : tmps[7]? = some (.bool b)) : (results Tryz.f9 tmps).run Tryz.prog W = .ok (.tuple #[.agg cs, .bool b]) W := by
  have hld : (loadVar 33 ⟨B, 0, none⟩).run Tryz.prog W = .ok (.agg cs) W := run_loadVar_row (P := Tryz.prog) W B 33 33 cs (0, 0) _ h Tryz.underlying33 rfl (by rw [hl]; kernel_rfl)
  unfold results
  rw [Tryz.results9]
  simp [ht, hq, asAddr, hld]
set_option maxRecDepth 40000 in
set_option maxHeartbeats 4000000 in
theorem spec_split_no (t : Tb) (a : Ad) (x f : Int) (w : World) (hm : TM 0 w t a) (hw : TW t a) (hs : TS a) (hno : ¬ CanS t x f) (hx : -9223372036854775808 ≤ f ∧ f ≤ 9223372036854775807) :
    Calls Tryz.prog 9 #[tbV t a, .int .i64 x, .int .i64 f] w fun e w' => ∃ R ar q, e = .returned (.tuple #[tbV R ar, .bool q]) ∧ SpA t x f R q ∧ Below w.heap.size w w' ∧ KT w.heap.size w'.heap.size w' R ar ∧ TW R ar ∧ TS ar := by
  obtain ⟨q, hq⟩ := told (Sd t)
  have HB2 : Hid (Below w.heap.size w ((w.alloc (.cells (tbA t a) 33)).alloc (.cells #[.int .i64 0, .int .i64 0, .int .i64 0, .int .i64 0, .int .i64 0, .int .i64 0, .int .i64 0, .int .i64 0, .int .i64 0, .int .i64 0, .int .i64 0, .int .i64 0, .int .i64 0, .int .i64 0, .int .i64 0, .slice none 0 0, .slice none 0 0, .slice none 0 0, .slice none 0 0] 33))) := ((Below.refl _ _).alloc (Nat.le_refl _) _).alloc (by simp) _
  have HX2 : Hid (TBx ((w.alloc (.cells (tbA t a) 33)).alloc (.cells #[.int .i64 0, .int .i64 0, .int .i64 0, .int .i64 0, .int .i64 0, .int .i64 0, .int .i64 0, .int .i64 0, .int .i64 0, .int .i64 0, .int .i64 0, .int .i64 0, .int .i64 0, .int .i64 0, .int .i64 0, .slice none 0 0, .slice none 0 0, .slice none 0 0, .slice none 0 0] 33)) w.heap.size t a) := (TBx.new w t a _ rfl).below ((Below.refl _ _).alloc (Nat.le_refl _) _)
  have HR2 : Hid (((w.alloc (.cells (tbA t a) 33)).alloc (.cells #[.int .i64 0, .int .i64 0, .int .i64 0, .int .i64 0, .int .i64 0, .int .i64 0, .int .i64 0, .int .i64 0, .int .i64 0, .int .i64 0, .int .i64 0, .int .i64 0, .int .i64 0, .int .i64 0, .int .i64 0, .slice none 0 0, .slice none 0 0, .slice none 0 0, .slice none 0 0] 33)).heap[w.heap.size + 1]? = some (.cells #[.int .i64 0, .int .i64 0, .int .i64 0, .int .i64 0, .int .i64 0, .int .i64 0, .int .i64 0, .int .i64 0, .int .i64 0, .int .i64 0, .int .i64 0, .int .i64 0, .int .i64 0, .int .i64 0, .int .i64 0, .slice none 0 0, .slice none 0 0, .slice none 0 0, .slice none 0 0] 33 (0, 0))) := new_row (w.alloc (.cells (tbA t a) 33)) _ _ _ (by simp)
  have HSP : Hid (Calls Tryz.prog 32 #[tbV t a] ((w.alloc (.cells (tbA t a) 33)).alloc (.cells #[.int .i64 0, .int .i64 0, .int .i64 0, .int .i64 0, .int .i64 0, .int .i64 0, .int .i64 0, .int .i64 0, .int .i64 0, .int .i64 0, .int .i64 0, .int .i64 0, .int .i64 0, .int .i64 0, .int .i64 0, .slice none 0 0, .slice none 0 0, .slice none 0 0, .slice none 0 0] 33)) fun e w' => e = .returned (.bool q) ∧ Below ((w.alloc (.cells (tbA t a) 33)).alloc (.cells #[.int .i64 0, .int .i64 0, .int .i64 0, .int .i64 0, .int .i64 0, .int .i64 0, .int .i64 0, .int .i64 0, .int .i64 0, .int .i64 0, .int .i64 0, .int .i64 0, .int .i64 0, .int .i64 0, .int .i64 0, .slice none 0 0, .slice none 0 0, .slice none 0 0, .slice none 0 0] 33)).heap.size ((w.alloc (.cells (tbA t a) 33)).alloc (.cells #[.int .i64 0, .int .i64 0, .int .i64 0, .int .i64 0, .int .i64 0, .int .i64 0, .int .i64 0, .int .i64 0, .int .i64 0, .int .i64 0, .int .i64 0, .int .i64 0, .int .i64 0, .int .i64 0, .int .i64 0, .slice none 0 0, .slice none 0 0, .slice none 0 0, .slice none 0 0] 33)) w') := spec_sound t a q _ (hm.below HB2.out) hw hs hq
  have HL : Hid (t.ss.length = a.sn) := hw.sl
  have hn : a.sn ≤ 1048576 := hs.s
  have HNO : Hid (¬ CanS t x f) := hno
  have HSL : Hid (∀ X, Below w.heap.size w X → GSeg 3 X a.sa a.sn (slX t.ss)) := fun X hX => (hm.below hX).s.seg
  have HQ : Hid (q = true ↔ Sd t) := hq
  clear hq hm hw hs hno
  go_enter Tryz.func9, Tryz.ntmps9
  go_wp2_with (first | (refine wpList_load_row rfl 33 (.tmp 3) rfl w.heap.size rfl 33 (tbA t a) (0, 0) _ HX2.out Tryz.underlying33 rfl (by kernel_rfl) ?_) | fail)
  refine Calls.mono HSP.out ?_
  rintro e w1 ⟨rfl, hb1⟩
  have HB1 : Hid (Below w.heap.size w w1) := HB2.out.trans (hb1.mono HB2.out.size)
  have HX1 : Hid (TBx w1 w.heap.size t a) := HX2.out.below hb1
  have HR1 : Hid (w1.heap[w.heap.size + 1]? = some (.cells #[.int .i64 0, .int .i64 0, .int .i64 0, .int .i64 0, .int .i64 0, .int .i64 0, .int .i64 0, .int .i64 0, .int .i64 0, .int .i64 0, .int .i64 0, .int .i64 0, .int .i64 0, .int .i64 0, .int .i64 0, .slice none 0 0, .slice none 0 0, .slice none 0 0, .slice none 0 0] 33 (0, 0))) := row_below HR2.out hb1
  have k18 : w1.cell? ⟨w.heap.size, 18, none⟩ = some (.slice a.sa a.sn a.sc) := HX1.out.cell 18 rfl
  clear hb1 HB2 HX2 HR2 HSP
  cases q
  · have HRZ : Hid (w1.heap[w.heap.size + 1]? = some (.cells #[.int .i64 0, .int .i64 0, .int .i64 0, .int .i64 0, .int .i64 0, .int .i64 0, .int .i64 0, .int .i64 0, .int .i64 0, .int .i64 0, .int .i64 0, .int .i64 0, .int .i64 0, .int .i64 0, .int .i64 0, .slice none 0 0, .slice none 0 0, .slice none 0 0, .slice none 0 0] 33 (0, 0))) := HR1.out
    have HBZ : Hid (Below w.heap.size w w1) := HB1.out
    clear HQ HSL HX1 k18 HR1 HB1
    go_wp2_with (first | (refine wpList_store_row rfl 33 (.tmp 6) (.tmp 30) rfl (w.heap.size + 1) #[.int .i64 0, .int .i64 0, .int .i64 0, .int .i64 0, .int .i64 0, .int .i64 0, .int .i64 0, .int .i64 0, .int .i64 0, .int .i64 0, .int .i64 0, .int .i64 0, .int .i64 0, .int .i64 0, .int .i64 0, .slice none 0 0, .slice none 0 0, .slice none 0 0, .slice none 0 0] rfl rfl 33 #[.int .i64 0, .int .i64 0, .int .i64 0, .int .i64 0, .int .i64 0, .int .i64 0, .int .i64 0, .int .i64 0, .int .i64 0, .int .i64 0, .int .i64 0, .int .i64 0, .int .i64 0, .int .i64 0, .int .i64 0, .slice none 0 0, .slice none 0 0, .slice none 0 0, .slice none 0 0] HRZ.out (by kernel_rfl) rfl (by simp [Value.oneCell']) ?_) | fail)
    refine bodyPost_ret (v := .tuple #[tbV tz az, .bool false]) (res_ssw (setRow_heap _ _ _ _ _ _ HRZ.out) rfl rfl rfl) rfl ⟨tz, az, false, rfl, Or.inl ⟨HNO.out, rfl, rfl⟩, below_setRow HBZ.out (Nat.le_succ _) _, kt_zero _ _ _, tw_zero, ts_zero⟩
  have HSD : Hid (Sd t) := HQ.out.1 rfl
  have HTM : Hid (Tm t) := sd_tm HSD.out
  have hn1 := HTM.out.n1
  have hn2 := HTM.out.n2
  have hlen := HL.out
  have hw1 : IntKind.i64.wrap ((a.sn : Int) - 1) = (a.sn : Int) - 1 := by rw [IntKind.wrap_i64]; omega
  clear HQ
  go_wp2_with fail
  refine Calls.mono (in_any x 0 ((a.sn : Int) - 1) w1) ?_
  rintro e w2 ⟨rfl, rfl⟩
  by_cases hx0 : 0 ≤ x ∧ x ≤ (a.sn : Int) - 1
  rotate_left
  · have HRZ : Hid (w2.heap[w.heap.size + 1]? = some (.cells #[.int .i64 0, .int .i64 0, .int .i64 0, .int .i64 0, .int .i64 0, .int .i64 0, .int .i64 0, .int .i64 0, .int .i64 0, .int .i64 0, .int .i64 0, .int .i64 0, .int .i64 0, .int .i64 0, .int .i64 0, .slice none 0 0, .slice none 0 0, .slice none 0 0, .slice none 0 0] 33 (0, 0))) := HR1.out
    have HBZ : Hid (Below w.heap.size w w2) := HB1.out
    rw [inr_no hx0]
    clear HSL HX1 HR1 HB1 hx0
    go_wp2_with (first | (refine wpList_store_row rfl 33 (.tmp 6) (.tmp 30) rfl (w.heap.size + 1) #[.int .i64 0, .int .i64 0, .int .i64 0, .int .i64 0, .int .i64 0, .int .i64 0, .int .i64 0, .int .i64 0, .int .i64 0, .int .i64 0, .int .i64 0, .int .i64 0, .int .i64 0, .int .i64 0, .int .i64 0, .slice none 0 0, .slice none 0 0, .slice none 0 0, .slice none 0 0] rfl rfl 33 #[.int .i64 0, .int .i64 0, .int .i64 0, .int .i64 0, .int .i64 0, .int .i64 0, .int .i64 0, .int .i64 0, .int .i64 0, .int .i64 0, .int .i64 0, .int .i64 0, .int .i64 0, .int .i64 0, .int .i64 0, .slice none 0 0, .slice none 0 0, .slice none 0 0, .slice none 0 0] HRZ.out (by kernel_rfl) rfl (by simp [Value.oneCell']) ?_) | fail)
    refine bodyPost_ret (v := .tuple #[tbV tz az, .bool false]) (res_ssw (setRow_heap _ _ _ _ _ _ HRZ.out) rfl rfl rfl) rfl ⟨tz, az, false, rfl, Or.inl ⟨HNO.out, rfl, rfl⟩, below_setRow HBZ.out (Nat.le_succ _) _, kt_zero _ _ _, tw_zero, ts_zero⟩
  rw [inr_yes hx0]
  obtain ⟨k, rfl⟩ : ∃ k : Nat, x = (k : Int) := ⟨x.toNat, by omega⟩
  have hk : k < a.sn := by omega
  clear hx0
  by_cases hn16 : a.sn < 16
  rotate_left
  · have hge : (16 : Int) ≤ (a.sn : Int) := by omega
    have hge2 : decide ((16 : Int) ≤ (a.sn : Int)) = true := decide_eq_true hge
    have HRZ : Hid (w2.heap[w.heap.size + 1]? = some (.cells #[.int .i64 0, .int .i64 0, .int .i64 0, .int .i64 0, .int .i64 0, .int .i64 0, .int .i64 0, .int .i64 0, .int .i64 0, .int .i64 0, .int .i64 0, .int .i64 0, .int .i64 0, .int .i64 0, .int .i64 0, .slice none 0 0, .slice none 0 0, .slice none 0 0, .slice none 0 0] 33 (0, 0))) := HR1.out
    have HBZ : Hid (Below w.heap.size w w2) := HB1.out
    clear HSL HX1 HR1 HB1
    go_wp2_with (first | (refine wpList_store_row rfl 33 (.tmp 6) (.tmp 30) rfl (w.heap.size + 1) #[.int .i64 0, .int .i64 0, .int .i64 0, .int .i64 0, .int .i64 0, .int .i64 0, .int .i64 0, .int .i64 0, .int .i64 0, .int .i64 0, .int .i64 0, .int .i64 0, .int .i64 0, .int .i64 0, .int .i64 0, .slice none 0 0, .slice none 0 0, .slice none 0 0, .slice none 0 0] rfl rfl 33 #[.int .i64 0, .int .i64 0, .int .i64 0, .int .i64 0, .int .i64 0, .int .i64 0, .int .i64 0, .int .i64 0, .int .i64 0, .int .i64 0, .int .i64 0, .int .i64 0, .int .i64 0, .int .i64 0, .int .i64 0, .slice none 0 0, .slice none 0 0, .slice none 0 0, .slice none 0 0] HRZ.out (by kernel_rfl) rfl (by simp [Value.oneCell']) ?_) | fail)
    refine bodyPost_ret (v := .tuple #[tbV tz az, .bool false]) (res_ssw (setRow_heap _ _ _ _ _ _ HRZ.out) rfl rfl rfl) rfl ⟨tz, az, false, rfl, Or.inl ⟨HNO.out, rfl, rfl⟩, below_setRow HBZ.out (Nat.le_succ _) _, kt_zero _ _ _, tw_zero, ts_zero⟩
  have hge : ¬ ((16 : Int) ≤ (a.sn : Int)) := by omega
  have hge2 : decide ((16 : Int) ≤ (a.sn : Int)) = false := decide_eq_false hge
  obtain ⟨b1, o1, hsa, hbl1, p1⟩ := (HSL.out _ HB1.out).at k hk
  rw [hsa] at k18
  simp only [slX] at p1
  obtain ⟨c0, c1, c2⟩ := sl_cells p1
  have hkl : k < t.ss.length := by omega
  have hst := HTM.out.st k hkl
  have hln := HTM.out.ln k hkl
  have hen := HTM.out.en k hkl
  have hp1 := HTM.out.pad1
  have hp2 := HTM.out.pad2
  have hg1 := HTM.out.grd1
  have hg2 := HTM.out.grd2
  have hmj := HTM.out.maj2
  have HNF : Hid (¬ (t.pad + t.grd < f ∧ t.pad + t.grd < (t.ss.getD k sl0).2.2 - f)) := fun h => HNO.out ⟨HSD.out, ⟨by omega, by omega⟩, by omega, h.1, by rw [Int.toNat_natCast]; exact h.2⟩
  generalize (t.ss.getD k sl0) = y at c0 c1 c2 hst hln hen HNF
  obtain ⟨z1, z2, z3⟩ := y
  simp only at c0 c1 c2 hst hln hen HNF
  have hbS : Below w2.heap.size w2 (w2.alloc (.cells #[.int .i64 z1, .int .i64 z2, .int .i64 z3] 42)) := (Below.refl _ _).alloc (Nat.le_refl _) _
  have HBS : Hid (Below w.heap.size w (w2.alloc (.cells #[.int .i64 z1, .int .i64 z2, .int .i64 z3] 42))) := HB1.out.trans (hbS.mono HB1.out.size)
  have HRS : Hid ((w2.alloc (.cells #[.int .i64 z1, .int .i64 z2, .int .i64 z3] 42)).heap[w.heap.size + 1]? = some (.cells #[.int .i64 0, .int .i64 0, .int .i64 0, .int .i64 0, .int .i64 0, .int .i64 0, .int .i64 0, .int .i64 0, .int .i64 0, .int .i64 0, .int .i64 0, .int .i64 0, .int .i64 0, .int .i64 0, .int .i64 0, .slice none 0 0, .slice none 0 0, .slice none 0 0, .slice none 0 0] 33 (0, 0))) := row_below HR1.out hbS
  have HXS : Hid (TBx (w2.alloc (.cells #[.int .i64 z1, .int .i64 z2, .int .i64 z3] 42)) w.heap.size t a) := HX1.out.below hbS
  have q2 : (w2.alloc (.cells #[.int .i64 z1, .int .i64 z2, .int .i64 z3] 42)).cell? ⟨w2.heap.size, 2, none⟩ = some (.int .i64 z3) := new_cell w2 #[.int .i64 z1, .int .i64 z2, .int .i64 z3] 42 2 _ rfl
  have k12 : (w2.alloc (.cells #[.int .i64 z1, .int .i64 z2, .int .i64 z3] 42)).cell? ⟨w.heap.size, 12, none⟩ = some (.int .i64 t.pad) := HXS.out.cell 12 rfl
  have k13 : (w2.alloc (.cells #[.int .i64 z1, .int .i64 z2, .int .i64 z3] 42)).cell? ⟨w.heap.size, 13, none⟩ = some (.int .i64 t.grd) := HXS.out.cell 13 rfl
  have hwa : IntKind.i64.wrap (t.pad + t.grd) = t.pad + t.grd := by rw [IntKind.wrap_i64]; omega
  have hwb : IntKind.i64.wrap (t.pad + t.grd + 1) = t.pad + t.grd + 1 := by rw [IntKind.wrap_i64]; omega
  have hwc : IntKind.i64.wrap (z3 - (t.pad + t.grd + 1)) = z3 - (t.pad + t.grd + 1) := by rw [IntKind.wrap_i64]; omega
  clear p1 hbl1 hsa hbS HB1 HX1 HR1 HSL
  go_wp2_with fail
  revert HBS HRS HXS q2 k12 k13
  generalize w2.alloc (.cells #[.int .i64 z1, .int .i64 z2, .int .i64 z3] 42) = V
  intro HBS HRS HXS q2 k12 k13
  refine Calls.mono (in_any f (t.pad + t.grd + 1) (z3 - (t.pad + t.grd + 1)) V) ?_
  rintro e w3 ⟨rfl, rfl⟩
  rw [inr_no (fun h => HNF.out ⟨by omega, by omega⟩)]
  have HRZ : Hid (w3.heap[w.heap.size + 1]? = some (.cells #[.int .i64 0, .int .i64 0, .int .i64 0, .int .i64 0, .int .i64 0, .int .i64 0, .int .i64 0, .int .i64 0, .int .i64 0, .int .i64 0, .int .i64 0, .int .i64 0, .int .i64 0, .int .i64 0, .int .i64 0, .slice none 0 0, .slice none 0 0, .slice none 0 0, .slice none 0 0] 33 (0, 0))) := HRS.out
  have HBZ : Hid (Below w.heap.size w w3) := HBS.out
  clear HRS HBS
  go_wp2_with (first | (refine wpList_store_row rfl 33 (.tmp 6) (.tmp 50) rfl (w.heap.size + 1) #[.int .i64 0, .int .i64 0, .int .i64 0, .int .i64 0, .int .i64 0, .int .i64 0, .int .i64 0, .int .i64 0, .int .i64 0, .int .i64 0, .int .i64 0, .int .i64 0, .int .i64 0, .int .i64 0, .int .i64 0, .slice none 0 0, .slice none 0 0, .slice none 0 0, .slice none 0 0] rfl rfl 33 #[.int .i64 0, .int .i64 0, .int .i64 0, .int .i64 0, .int .i64 0, .int .i64 0, .int .i64 0, .int .i64 0, .int .i64 0, .int .i64 0, .int .i64 0, .int .i64 0, .int .i64 0, .int .i64 0, .int .i64 0, .slice none 0 0, .slice none 0 0, .slice none 0 0, .slice none 0 0] HRZ.out (by kernel_rfl) rfl (by simp [Value.oneCell']) ?_) | fail)
  refine bodyPost_ret (v := .tuple #[tbV tz az, .bool false]) (res_ssw (setRow_heap _ _ _ _ _ _ HRZ.out) rfl rfl rfl) rfl ⟨tz, az, false, rfl, Or.inl ⟨HNO.out, rfl, rfl⟩, below_setRow HBZ.out (Nat.le_succ _) _, kt_zero _ _ _, tw_zero, ts_zero⟩
set_option maxRecDepth 40000 in
set_option maxHeartbeats 16000000 in
theorem spec_split_yes (t : Tb) (a : Ad) (k : Nat) (f : Int) (w : World) (hm : TM 0 w t a) (hw : TW t a) (hs : TS a) (hc : CanS t k f) :
    Calls Tryz.prog 9 #[tbV t a, .int .i64 (k : Int), .int .i64 f] w fun e w' => ∃ R ar q, e = .returned (.tuple #[tbV R ar, .bool q]) ∧ SpA t k f R q ∧ Below w.heap.size w w' ∧ KT w.heap.size w'.heap.size w' R ar ∧ TW R ar ∧ TS ar := by
  obtain ⟨q, hq⟩ : ∃ q, q = true ↔ Sd t := ⟨true, ⟨fun _ => hc.1, fun _ => rfl⟩⟩
  have hqt : q = true := hq.2 hc.1
  subst hqt
  have HB2 : Hid (Below w.heap.size w ((w.alloc (.cells (tbA t a) 33)).alloc (.cells #[.int .i64 0, .int .i64 0, .int .i64 0, .int .i64 0, .int .i64 0, .int .i64 0, .int .i64 0, .int .i64 0, .int .i64 0, .int .i64 0, .int .i64 0, .int .i64 0, .int .i64 0, .int .i64 0, .int .i64 0, .slice none 0 0, .slice none 0 0, .slice none 0 0, .slice none 0 0] 33))) := ((Below.refl _ _).alloc (Nat.le_refl _) _).alloc (by simp) _
  have HX2 : Hid (TBx ((w.alloc (.cells (tbA t a) 33)).alloc (.cells #[.int .i64 0, .int .i64 0, .int .i64 0, .int .i64 0, .int .i64 0, .int .i64 0, .int .i64 0, .int .i64 0, .int .i64 0, .int .i64 0, .int .i64 0, .int .i64 0, .int .i64 0, .int .i64 0, .int .i64 0, .slice none 0 0, .slice none 0 0, .slice none 0 0, .slice none 0 0] 33)) w.heap.size t a) := (TBx.new w t a _ rfl).below ((Below.refl _ _).alloc (Nat.le_refl _) _)
  have HR2 : Hid (((w.alloc (.cells (tbA t a) 33)).alloc (.cells #[.int .i64 0, .int .i64 0, .int .i64 0, .int .i64 0, .int .i64 0, .int .i64 0, .int .i64 0, .int .i64 0, .int .i64 0, .int .i64 0, .int .i64 0, .int .i64 0, .int .i64 0, .int .i64 0, .int .i64 0, .slice none 0 0, .slice none 0 0, .slice none 0 0, .slice none 0 0] 33)).heap[w.heap.size + 1]? = some (.cells #[.int .i64 0, .int .i64 0, .int .i64 0, .int .i64 0, .int .i64 0, .int .i64 0, .int .i64 0, .int .i64 0, .int .i64 0, .int .i64 0, .int .i64 0, .int .i64 0, .int .i64 0, .int .i64 0, .int .i64 0, .slice none 0 0, .slice none 0 0, .slice none 0 0, .slice none 0 0] 33 (0, 0))) := new_row (w.alloc (.cells (tbA t a) 33)) _ _ _ (by simp)
  have HSP : Hid (Calls Tryz.prog 32 #[tbV t a] ((w.alloc (.cells (tbA t a) 33)).alloc (.cells #[.int .i64 0, .int .i64 0, .int .i64 0, .int .i64 0, .int .i64 0, .int .i64 0, .int .i64 0, .int .i64 0, .int .i64 0, .int .i64 0, .int .i64 0, .int .i64 0, .int .i64 0, .int .i64 0, .int .i64 0, .slice none 0 0, .slice none 0 0, .slice none 0 0, .slice none 0 0] 33)) fun e w' => e = .returned (.bool true) ∧ Below ((w.alloc (.cells (tbA t a) 33)).alloc (.cells #[.int .i64 0, .int .i64 0, .int .i64 0, .int .i64 0, .int .i64 0, .int .i64 0, .int .i64 0, .int .i64 0, .int .i64 0, .int .i64 0, .int .i64 0, .int .i64 0, .int .i64 0, .int .i64 0, .int .i64 0, .slice none 0 0, .slice none 0 0, .slice none 0 0, .slice none 0 0] 33)).heap.size ((w.alloc (.cells (tbA t a) 33)).alloc (.cells #[.int .i64 0, .int .i64 0, .int .i64 0, .int .i64 0, .int .i64 0, .int .i64 0, .int .i64 0, .int .i64 0, .int .i64 0, .int .i64 0, .int .i64 0, .int .i64 0, .int .i64 0, .int .i64 0, .int .i64 0, .slice none 0 0, .slice none 0 0, .slice none 0 0, .slice none 0 0] 33)) w') := spec_sound t a true _ (hm.below HB2.out) hw hs hq
  have HL : Hid (t.ss.length = a.sn) := hw.sl
  have hn : a.sn ≤ 1048576 := hs.s
  have HCS : Hid (CanS t k f) := hc
  have HTM : Hid (Tm t) := sd_tm hc.1
  have HSL : Hid (∀ X, Below w.heap.size w X → GSeg 3 X a.sa a.sn (slX t.ss)) := fun X hX => (hm.below hX).s.seg
  have HCP : Hid (∀ (X : World) (za : Option Addr) (zc : Nat) (zs : List slT), Below w.heap.size w X → GSeg 3 X za zs.length (slX zs) → zs.length ≤ 1048576 → (∀ i, i < zs.length → 0 ≤ (zs.getD i sl0).2.1 ∧ (zs.getD i sl0).2.1 ≤ 10000) → Calls Tryz.prog 34 #[tbV t a, .slice za zs.length zc] X fun e w' => ∃ a', e = .returned (tbV { t with ss := zs } a') ∧ Below X.heap.size X w' ∧ KT X.heap.size w'.heap.size w' { t with ss := zs } a' ∧ TW { t with ss := zs } a' ∧ TS a') := fun X za zc zs hX hz hn2 hb => (spec_cp t a za zc zs.length zs X (hm.below hX) hw hs hz rfl hn2 (fun i hi => by have := hb i hi; omega)).mono fun e w' ⟨a', h1, h2, h3, h4, h5, _⟩ => ⟨a', h1, h2, h3, h4, h5⟩
  have hkl : k < t.ss.length := by have := hc.2.1.2; omega
  have hk : k < a.sn := by rw [← hw.sl]; exact hkl
  have hn16 : a.sn < 16 := by rw [← hw.sl]; exact hc.2.2.1
  have hf1 : t.pad + t.grd < f := hc.2.2.2.1
  have hf2 : t.pad + t.grd < (t.ss.getD k sl0).2.2 - f := by have := hc.2.2.2.2; rw [Int.toNat_natCast] at this; exact this
  have hst := HTM.out.st k hkl
  have hln := HTM.out.ln k hkl
  have hen := HTM.out.en k hkl
  have hp1 := HTM.out.pad1
  have hp2 := HTM.out.pad2
  have hg1 := HTM.out.grd1
  have hg2 := HTM.out.grd2
  have hmj := HTM.out.maj2
  have HRG : Hid (∀ m, m ≤ t.ss.length → ∀ i, i < (splM t.ss k f m).length → 0 ≤ ((splM t.ss k f m).getD i sl0).2.1 ∧ ((splM t.ss k f m).getD i sl0).2.1 ≤ 10000) := splM_rng HTM.out hkl (by omega) (by omega)
  clear hq hm hw hs hc
  obtain ⟨iS, hi1, hi2, hi3, hi4⟩ := sli
  have HIS : Hid (Tryz.prog.info? 42 = some iS ∧ iS.zero = some (.agg #[.int .i64 0, .int .i64 0, .int .i64 0]) ∧ iS.size = 3 ∧ iS.bytes = 24) := ⟨hi1, hi2, hi3, hi4⟩
  clear hi1 hi2 hi3 hi4
  go_enter Tryz.func9, Tryz.ntmps9
  go_wp2_with (first | (refine wpList_load_row rfl 33 (.tmp 3) rfl w.heap.size rfl 33 (tbA t a) (0, 0) _ HX2.out Tryz.underlying33 rfl (by kernel_rfl) ?_) | fail)
  refine Calls.mono HSP.out ?_
  rintro e w1 ⟨rfl, hb1⟩
  have HB1 : Hid (Below w.heap.size w w1) := HB2.out.trans (hb1.mono HB2.out.size)
  have HX1 : Hid (TBx w1 w.heap.size t a) := HX2.out.below hb1
  have HR1 : Hid (w1.heap[w.heap.size + 1]? = some (.cells #[.int .i64 0, .int .i64 0, .int .i64 0, .int .i64 0, .int .i64 0, .int .i64 0, .int .i64 0, .int .i64 0, .int .i64 0, .int .i64 0, .int .i64 0, .int .i64 0, .int .i64 0, .int .i64 0, .int .i64 0, .slice none 0 0, .slice none 0 0, .slice none 0 0, .slice none 0 0] 33 (0, 0))) := row_below HR2.out hb1
  have k18 : w1.cell? ⟨w.heap.size, 18, none⟩ = some (.slice a.sa a.sn a.sc) := HX1.out.cell 18 rfl
  clear hb1 HB2 HX2 HR2 HSP
  have hw1 : IntKind.i64.wrap ((a.sn : Int) - 1) = (a.sn : Int) - 1 := by rw [IntKind.wrap_i64]; omega
  have hge : ¬ ((16 : Int) ≤ (a.sn : Int)) := by omega
  have hge2 : decide ((16 : Int) ≤ (a.sn : Int)) = false := decide_eq_false hge
  go_wp2_with fail
  refine Calls.mono (in_any (k : Int) 0 ((a.sn : Int) - 1) w1) ?_
  rintro e w2 ⟨rfl, rfl⟩
  rw [inr_yes (show 0 ≤ (k : Int) ∧ (k : Int) ≤ (a.sn : Int) - 1 from ⟨by omega, by omega⟩)]
  obtain ⟨b1, o1, hsa, hbl1, p1⟩ := (HSL.out _ HB1.out).at k hk
  rw [hsa] at k18
  simp only [slX] at p1
  obtain ⟨c0, c1, c2⟩ := sl_cells p1
  obtain ⟨y, HY⟩ : ∃ y, Hid (t.ss.getD k sl0 = y) := ⟨_, rfl⟩
  rw [HY.out] at c0 c1 c2 hst hln hen hf2
  obtain ⟨z1, z2, z3⟩ := y
  simp only at c0 c1 c2 hst hln hen hf2
  have hbS : Below w2.heap.size w2 (w2.alloc (.cells #[.int .i64 z1, .int .i64 z2, .int .i64 z3] 42)) := (Below.refl _ _).alloc (Nat.le_refl _) _
  have HBS : Hid (Below w.heap.size w (w2.alloc (.cells #[.int .i64 z1, .int .i64 z2, .int .i64 z3] 42))) := HB1.out.trans (hbS.mono HB1.out.size)
  have HRS : Hid ((w2.alloc (.cells #[.int .i64 z1, .int .i64 z2, .int .i64 z3] 42)).heap[w.heap.size + 1]? = some (.cells #[.int .i64 0, .int .i64 0, .int .i64 0, .int .i64 0, .int .i64 0, .int .i64 0, .int .i64 0, .int .i64 0, .int .i64 0, .int .i64 0, .int .i64 0, .int .i64 0, .int .i64 0, .int .i64 0, .int .i64 0, .slice none 0 0, .slice none 0 0, .slice none 0 0, .slice none 0 0] 33 (0, 0))) := row_below HR1.out hbS
  have HXS : Hid (TBx (w2.alloc (.cells #[.int .i64 z1, .int .i64 z2, .int .i64 z3] 42)) w.heap.size t a) := HX1.out.below hbS
  have HSS : Hid ((w2.alloc (.cells #[.int .i64 z1, .int .i64 z2, .int .i64 z3] 42)).heap[w2.heap.size]? = some (.cells #[.int .i64 z1, .int .i64 z2, .int .i64 z3] 42 (0, 0))) := new_row w2 _ _ _ rfl
  have q2 : (w2.alloc (.cells #[.int .i64 z1, .int .i64 z2, .int .i64 z3] 42)).cell? ⟨w2.heap.size, 2, none⟩ = some (.int .i64 z3) := new_cell w2 #[.int .i64 z1, .int .i64 z2, .int .i64 z3] 42 2 _ rfl
  have k12 : (w2.alloc (.cells #[.int .i64 z1, .int .i64 z2, .int .i64 z3] 42)).cell? ⟨w.heap.size, 12, none⟩ = some (.int .i64 t.pad) := HXS.out.cell 12 rfl
  have k13 : (w2.alloc (.cells #[.int .i64 z1, .int .i64 z2, .int .i64 z3] 42)).cell? ⟨w.heap.size, 13, none⟩ = some (.int .i64 t.grd) := HXS.out.cell 13 rfl
  have hwa : IntKind.i64.wrap (t.pad + t.grd) = t.pad + t.grd := by rw [IntKind.wrap_i64]; omega
  have hwb : IntKind.i64.wrap (t.pad + t.grd + 1) = t.pad + t.grd + 1 := by rw [IntKind.wrap_i64]; omega
  have hwc : IntKind.i64.wrap (z3 - (t.pad + t.grd + 1)) = z3 - (t.pad + t.grd + 1) := by rw [IntKind.wrap_i64]; omega
  have HRL0 : Hid (w.heap.size + 1 < w2.heap.size) := (Array.getElem?_eq_some_iff.1 HR1.out).1
  clear p1 hbl1 hsa hbS HB1 HX1 HR1
  go_wp2_with fail
  refine Calls.mono (in_any f (t.pad + t.grd + 1) (z3 - (t.pad + t.grd + 1)) _) ?_
  rintro e w3 ⟨rfl, hw3e⟩
  rw [inr_yes (show t.pad + t.grd + 1 ≤ f ∧ f ≤ z3 - (t.pad + t.grd + 1) from ⟨by omega, by omega⟩)]
  rw [← hw3e] at HBS HRS HXS HSS
  clear q2 k12 k13 hwa hwb hwc c0 c1 c2
  obtain ⟨RB, HRB⟩ : ∃ RB, Hid (w2.heap.size = RB) := ⟨_, rfl⟩
  have HS3 : Hid (w3.heap.size = RB + 1) := by
    show _ = _
    rw [hw3e, ← HRB.out]
    simp
  rw [HRB.out] at HSS HRL0 ⊢
  clear hw3e k18 HRB
  have HOW0 : Hid ((w3.alloc (.cells #[] 42)).ownsRow w3.heap.size 42 3 (.slice (some ⟨w3.heap.size, 0, none⟩) 0 0) 0 []) := own_lit0 w3 _ 3
  have hbL : Below w3.heap.size w3 (w3.alloc (.cells #[] 42)) := (Below.refl _ _).alloc (Nat.le_refl _) _
  have HBL : Hid (Below w.heap.size w (w3.alloc (.cells #[] 42))) := HBS.out.trans (hbL.mono HBS.out.size)
  have HXL : Hid (TBx (w3.alloc (.cells #[] 42)) w.heap.size t a) := HXS.out.below hbL
  have HRLz : Hid ((w3.alloc (.cells #[] 42)).heap[w.heap.size + 1]? = some (.cells #[.int .i64 0, .int .i64 0, .int .i64 0, .int .i64 0, .int .i64 0, .int .i64 0, .int .i64 0, .int .i64 0, .int .i64 0, .int .i64 0, .int .i64 0, .int .i64 0, .int .i64 0, .int .i64 0, .int .i64 0, .slice none 0 0, .slice none 0 0, .slice none 0 0, .slice none 0 0] 33 (0, 0))) := row_below HRS.out hbL
  have HSL2 : Hid ((w3.alloc (.cells #[] 42)).heap[RB]? = some (.cells #[.int .i64 z1, .int .i64 z2, .int .i64 z3] 42 (0, 0))) := row_below HSS.out hbL
  have HLL : Hid (w3.heap.size < (w3.alloc (.cells #[] 42)).heap.size) := by show _ < _; simp
  clear hbL HBS HXS HRS HSS
  go_wp2
  revert HOW0 HBL HXL HRLz HSL2 HLL
  generalize w3.alloc (.cells #[] 42) = W4
  obtain ⟨LB, HLBE⟩ : ∃ LB, Hid (w3.heap.size = LB) := ⟨_, rfl⟩
  rw [HLBE.out]
  intro HOW0 HBL HXL HRLz HSL2 HLL
  have HRL : Hid (w.heap.size + 1 < RB ∧ RB < LB) := by have h1 := HRL0.out; have h2 := HS3.out; have h3 := HLBE.out; exact ⟨h1, by omega⟩
  clear HS3 HLBE HRL0
  go_loopw [10, 11] (fun vs vi wr => ∃ (m len cap : Nat) (A : Option Addr), m ≤ a.sn ∧ vs = .slice A len cap ∧ vi = .int .i64 m ∧ len ≤ cap ∧ len ≤ 40 ∧ Hid ((splM t.ss k f m).length = len) ∧ Hid (Below w.heap.size w wr) ∧ Hid (TBx wr w.heap.size t a) ∧ Hid (wr.heap[w.heap.size + 1]? = some (.cells #[.int .i64 0, .int .i64 0, .int .i64 0, .int .i64 0, .int .i64 0, .int .i64 0, .int .i64 0, .int .i64 0, .int .i64 0, .int .i64 0, .int .i64 0, .int .i64 0, .int .i64 0, .int .i64 0, .int .i64 0, .slice none 0 0, .slice none 0 0, .slice none 0 0, .slice none 0 0] 33 (0, 0))) ∧ Hid (wr.heap[RB]? = some (.cells #[.int .i64 z1, .int .i64 z2, .int .i64 z3] 42 (0, 0))) ∧ Hid (wr.ownsRow LB 42 3 (.slice A len cap) len (gcat (slX (splM t.ss k f m)) len)) ∧ Hid (LB < wr.heap.size)) (fun _ vi _ => a.sn - (intOf vi).toNat)
  case atStart => exact ⟨0, 0, 0, some ⟨LB, 0, none⟩, by omega, rfl, rfl, by omega, by omega, rfl, HBL.out, HXL.out, HRLz.out, HSL2.out, HOW0.out, HLL.out⟩
  case round =>
    clear HBL HXL HRLz HSL2 HOW0 HLL
    obtain ⟨m, len, cap, A, hm, rfl, rfl, hlc, hl40, HLN, HB, HX, HR, HSB, HOW, HLB⟩ := hrel
    have k18 : wr.cell? ⟨w.heap.size, 18, none⟩ = some (.slice a.sa a.sn a.sc) := HX.out.cell 18 rfl
    by_cases hlt : m < a.sn
    rotate_left
    · obtain rfl : m = a.sn := by omega
      have hni : ¬ ((a.sn : Int) < (a.sn : Int)) := by omega
      obtain ⟨AN, cap2, eA, hc2, hls⟩ := own_ls (k := 3) (fun j _ => slX_len _ j) HOW.out
      cases eA
      have HZL : Hid ((splL t.ss k f).length = len) := by
        show _ = _
        rw [← splM_all hkl, HL.out]
        exact HLN.out
      have HZS : Hid (GSeg 3 wr A len (slX (splL t.ss k f))) := by
        have h := hls.1
        rw [← HL.out, splM_all hkl] at h
        exact h
      have HZR : Hid (∀ i, i < (splL t.ss k f).length → 0 ≤ ((splL t.ss k f).getD i sl0).2.1 ∧ ((splL t.ss k f).getD i sl0).2.1 ≤ 10000) := by
        have h := HRG.out t.ss.length (Nat.le_refl _)
        rw [splM_all hkl] at h
        exact h
      have HCL := HCP.out wr A cap (splL t.ss k f) HB.out (by rw [HZL.out]; exact HZS.out) (by rw [HZL.out]; omega) HZR.out
      rw [HZL.out] at HCL
      have HCLH : Hid _ := HCL
      clear HCL HZS HZR hls HOW HSB HCP HSL
      go_wp2_with (first | (refine wpList_load_row rfl 33 (.tmp 3) rfl w.heap.size rfl 33 (tbA t a) (0, 0) _ HX.out Tryz.underlying33 rfl (by kernel_rfl) ?_) | fail)
      refine Calls.mono HCLH.out ?_
      rintro e w5 ⟨ar, rfl, hb5, hkt, htw, hts⟩
      have HR5 : Hid (w5.heap[w.heap.size + 1]? = some (.cells #[.int .i64 0, .int .i64 0, .int .i64 0, .int .i64 0, .int .i64 0, .int .i64 0, .int .i64 0, .int .i64 0, .int .i64 0, .int .i64 0, .int .i64 0, .int .i64 0, .int .i64 0, .int .i64 0, .int .i64 0, .slice none 0 0, .slice none 0 0, .slice none 0 0, .slice none 0 0] 33 (0, 0))) := row_below HR.out hb5
      have HB5 : Hid (Below w.heap.size w w5) := HB.out.trans (hb5.mono HB.out.size)
      have hwr : w.heap.size + 1 < wr.heap.size := (Array.getElem?_eq_some_iff.1 HR.out).1
      have HK5 : Hid (KT wr.heap.size w5.heap.size w5 { t with ss := splL t.ss k f } ar) := hkt
      have HTT : Hid (TW { t with ss := splL t.ss k f } ar ∧ TS ar) := ⟨htw, hts⟩
      have HRF : Hid ((w5.setRow (w.heap.size + 1) (tbA t ar)).heap[w.heap.size + 1]? = some (.cells (tbA t ar) 33 (0, 0))) := setRow_heap _ _ _ _ _ _ HR5.out
      have hsf : (w5.setRow (w.heap.size + 1) (tbA t ar)).heap.size = w5.heap.size := by simp [World.setRow]
      have hkf := HK5.out.setRow (B := w.heap.size + 1) (cs := tbA t ar) (Or.inl hwr)
      have HKF : Hid (KT w.heap.size (w5.setRow (w.heap.size + 1) (tbA t ar)).heap.size (w5.setRow (w.heap.size + 1) (tbA t ar)) { t with ss := splL t.ss k f } ar) := by
        rw [hsf]
        exact ⟨hkf.p.wide (by omega) (Nat.le_refl _), hkf.g, fun j hj => (hkf.v j hj).wide (by omega) (Nat.le_refl _), hkf.d.wide (by omega) (Nat.le_refl _), hkf.c.wide (by omega) (Nat.le_refl _), hkf.s.wide (by omega) (Nat.le_refl _)⟩
      clear hb5 hkt htw hts hkf HX HB HR HK5
      go_wp2_with (first | (refine wpList_store_row rfl 33 (.tmp 6) (.tmp 92) rfl (w.heap.size + 1) (tbA t ar) rfl rfl 33 #[.int .i64 0, .int .i64 0, .int .i64 0, .int .i64 0, .int .i64 0, .int .i64 0, .int .i64 0, .int .i64 0, .int .i64 0, .int .i64 0, .int .i64 0, .int .i64 0, .int .i64 0, .int .i64 0, .int .i64 0, .slice none 0 0, .slice none 0 0, .slice none 0 0, .slice none 0 0] HR5.out (by kernel_rfl) rfl (by simp [Value.oneCell']) ?_) | fail)
      exact bodyPost_ret (v := .tuple #[tbV { t with ss := splL t.ss k f } ar, .bool true]) (res_ssw HRF.out rfl rfl rfl) rfl ⟨{ t with ss := splL t.ss k f }, ar, true, rfl, Or.inr ⟨HCS.out, (by rw [Int.toNat_natCast]), rfl⟩, below_setRow HB5.out (Nat.le_succ _) _, HKF.out, HTT.out.1, HTT.out.2⟩
    have hlt' : (m : Int) < (a.sn : Int) := by omega
    by_cases hmk : m = k
    · subst hmk
      have e0 : wr.cell? ⟨RB, 0, none⟩ = some (.int .i64 z1) := by have h := HSB.out; simp [World.cell?, h]
      have e1 : wr.cell? ⟨RB, 1, none⟩ = some (.int .i64 z2) := by have h := HSB.out; simp [World.cell?, h]
      have e2 : wr.cell? ⟨RB, 2, none⟩ = some (.int .i64 z3) := by have h := HSB.out; simp [World.cell?, h]
      have hw3 : IntKind.i64.wrap (z2 + f) = z2 + f := by rw [IntKind.wrap_i64]; omega
      have hw4 : IntKind.i64.wrap (z3 - f) = z3 - f := by rw [IntKind.wrap_i64]; omega
      have HOWL : Hid ((wr.alloc (.cells #[.int .i64 z1, .int .i64 z2, .int .i64 f, .int .i64 z1, .int .i64 (z2 + f), .int .i64 (z3 - f)] 42)).ownsRow LB 42 3 (.slice A len cap) len (gcat (slX (splM t.ss m f m)) len)) := own_far HOW.out (fun q hq => ((Below.refl wr.heap.size wr).alloc (Nat.le_refl _) _).block q (own_ge HOW.out q hq).2)
      have HNW : Hid (∀ j u, ([.int .i64 z1, .int .i64 z2, .int .i64 f, .int .i64 z1, .int .i64 (z2 + f), .int .i64 (z3 - f)] : List Value)[j]? = some u → (wr.alloc (.cells #[.int .i64 z1, .int .i64 z2, .int .i64 f, .int .i64 z1, .int .i64 (z2 + f), .int .i64 (z3 - f)] 42)).cell? ((⟨wr.heap.size, 0, none⟩ : Addr).add j) = some u) := fun j u hj => (by rw [add_plain]; exact CellsAt.new wr [.int .i64 z1, .int .i64 z2, .int .i64 f, .int .i64 z1, .int .i64 (z2 + f), .int .i64 (z3 - f)] 42 wr.heap.size rfl j u hj)
      have HGC : Hid (gcat (slX (splM t.ss m f (m + 1))) (len + 2) = gcat (slX (splM t.ss m f m)) len ++ [.int .i64 z1, .int .i64 z2, .int .i64 f, .int .i64 z1, .int .i64 (z2 + f), .int .i64 (z3 - f)]) := (by
        have e := slX_app (splM t.ss m f m) [(z1, z2, f), (z1, z2 + f, z3 - f)]
        rw [HLN.out] at e
        show gcat (slX (splM t.ss m f m ++ (if m = m then _ else _))) _ = _
        rw [if_pos rfl, HY.out]
        rw [List.length_append, HLN.out] at e
        exact e)
      have HLN2 : Hid ((splM t.ss m f (m + 1)).length = len + 2) := (by
        show (splM t.ss m f m ++ (if m = m then _ else _)).length = _
        rw [if_pos rfl, HY.out]
        rw [List.length_append, HLN.out]
        rfl)
      go_wp2_with (first
       | (at_builtin
          refine wpList_append_any rfl (.tmp 62) (.tmp 80) 31 rfl LB 42 iS (.agg #[.int .i64 0, .int .i64 0, .int .i64 0]) 3 24 Tryz.underlying31 HIS.out.1 HIS.out.2.1 HIS.out.2.2.1 HIS.out.2.2.2 rfl (by decide) ((.slice A len cap)) len (gcat (slX (splM t.ss m f m)) len) rfl HOWL.out (some ⟨wr.heap.size, 0, none⟩) 2 2 [.int .i64 z1, .int .i64 z2, .int .i64 f, .int .i64 z1, .int .i64 (z2 + f), .int .i64 (z3 - f)] rfl rfl (fun _ => ⟨_, rfl, HNW.out⟩) (fun u hu => by simp only [List.mem_cons, List.not_mem_nil, or_false] at hu; rcases hu with rfl | rfl | rfl | rfl | rfl | rfl <;> rfl) (by unfold maxLen; omega) (by omega) (by have := HLB.out; simp; omega) ?_
          intro vv w9 ho hg hk2
          have hb9 : Below LB (wr.alloc (.cells #[.int .i64 z1, .int .i64 z2, .int .i64 f, .int .i64 z1, .int .i64 (z2 + f), .int .i64 (z3 - f)] 42)) w9 := (Below.refl _ _).grown hg (by have := HLB.out; simp; omega) (fun q hq => (own_ge HOW.out q hq).1)
          have hbA : Below LB wr w9 := ((Below.refl LB wr).alloc (by have := HLB.out; omega) _).trans hb9
          have HB9 : Hid (Below w.heap.size w w9) := HB.out.trans (hbA.mono (by have := HRL.out; omega))
          have HX9 : Hid (TBx w9 w.heap.size t a) := tbx_low HX.out hbA (by have := HRL.out; omega)
          have HR9 : Hid (w9.heap[w.heap.size + 1]? = some (.cells #[.int .i64 0, .int .i64 0, .int .i64 0, .int .i64 0, .int .i64 0, .int .i64 0, .int .i64 0, .int .i64 0, .int .i64 0, .int .i64 0, .int .i64 0, .int .i64 0, .int .i64 0, .int .i64 0, .int .i64 0, .slice none 0 0, .slice none 0 0, .slice none 0 0, .slice none 0 0] 33 (0, 0))) := (hbA.block _ (by have := HRL.out; omega)).trans HR.out
          have HS9 : Hid (w9.heap[RB]? = some (.cells #[.int .i64 z1, .int .i64 z2, .int .i64 z3] 42 (0, 0))) := (hbA.block _ (by have := HRL.out; omega)).trans HSB.out
          have HO9 : Hid (w9.ownsRow LB 42 3 vv (len + 2) (gcat (slX (splM t.ss m f (m + 1))) (len + 2))) := (by have e := HGC.out; show World.ownsRow _ _ _ _ _ _ _; rw [e]; exact ho)
          obtain ⟨AN, cap2, hvv, hc2, hls⟩ := own_ls (k := 3) (fun j _ => slX_len _ j) HO9.out
          subst hvv
          have HP9 : Hid (LB < w9.heap.size) := (by have := hbA.size; have := HLB.out; show _ < _; omega)
          have HC9 : Hid (len + 2 ≤ cap2) := hc2
          clear ho hg hk2 hb9 hbA hls hc2)
       | fail)
      go_roundw
      case rel => exact ⟨m + 1, len + 2, cap2, AN, by omega, rfl, by first | rfl | go_num, HC9.out, by have := HLN.out; have := splM_len t.ss m f m; rw [if_neg (Nat.lt_irrefl m)] at this; omega, HLN2.out, HB9.out, HX9.out, HR9.out, HS9.out, HO9.out, HP9.out⟩
      case measure => simp [intOf]; omega
    · have hmkb : ((m : Int) == (k : Int)) = false := by simp; omega
      have hmki : ¬ ((m : Int) = (k : Int)) := by omega
      obtain ⟨b1, o1, hsa, hbl1, p1⟩ := (HSL.out _ HB.out).at m hlt
      rw [hsa] at k18
      simp only [slX] at p1
      obtain ⟨c0, c1, c2⟩ := sl_cells p1
      obtain ⟨y, HYM⟩ : ∃ y, Hid (t.ss.getD m sl0 = y) := ⟨_, rfl⟩
      rw [HYM.out] at c0 c1 c2
      obtain ⟨y1, y2, y3⟩ := y
      simp only at c0 c1 c2
      have HOWL : Hid ((wr.alloc (.cells #[.int .i64 y1, .int .i64 y2, .int .i64 y3] 42)).ownsRow LB 42 3 (.slice A len cap) len (gcat (slX (splM t.ss k f m)) len)) := own_far HOW.out (fun q hq => ((Below.refl wr.heap.size wr).alloc (Nat.le_refl _) _).block q (own_ge HOW.out q hq).2)
      have HNW : Hid (∀ j u, ([.int .i64 y1, .int .i64 y2, .int .i64 y3] : List Value)[j]? = some u → (wr.alloc (.cells #[.int .i64 y1, .int .i64 y2, .int .i64 y3] 42)).cell? ((⟨wr.heap.size, 0, none⟩ : Addr).add j) = some u) := fun j u hj => (by rw [add_plain]; exact CellsAt.new wr [.int .i64 y1, .int .i64 y2, .int .i64 y3] 42 wr.heap.size rfl j u hj)
      have HGC : Hid (gcat (slX (splM t.ss k f (m + 1))) (len + 1) = gcat (slX (splM t.ss k f m)) len ++ [.int .i64 y1, .int .i64 y2, .int .i64 y3]) := (by
        have e := slX_app (splM t.ss k f m) [(y1, y2, y3)]
        rw [HLN.out] at e
        show gcat (slX (splM t.ss k f m ++ (if m = k then _ else _))) _ = _
        rw [if_neg hmk, HYM.out]
        rw [List.length_append, HLN.out] at e
        exact e)
      have HLN2 : Hid ((splM t.ss k f (m + 1)).length = len + 1) := (by
        show (splM t.ss k f m ++ (if m = k then _ else _)).length = _
        rw [if_neg hmk, HYM.out]
        rw [List.length_append, HLN.out]
        rfl)
      clear p1 hbl1 hsa
      go_wp2_with (first
       | (at_builtin
          refine wpList_append_any rfl (.tmp 82) (.tmp 88) 31 rfl LB 42 iS (.agg #[.int .i64 0, .int .i64 0, .int .i64 0]) 3 24 Tryz.underlying31 HIS.out.1 HIS.out.2.1 HIS.out.2.2.1 HIS.out.2.2.2 rfl (by decide) ((.slice A len cap)) len (gcat (slX (splM t.ss k f m)) len) rfl HOWL.out (some ⟨wr.heap.size, 0, none⟩) 1 1 [.int .i64 y1, .int .i64 y2, .int .i64 y3] rfl rfl (fun _ => ⟨_, rfl, HNW.out⟩) (fun u hu => by simp only [List.mem_cons, List.not_mem_nil, or_false] at hu; rcases hu with rfl | rfl | rfl <;> rfl) (by unfold maxLen; omega) (by omega) (by have := HLB.out; simp; omega) ?_
          intro vv w9 ho hg hk2
          have hb9 : Below LB (wr.alloc (.cells #[.int .i64 y1, .int .i64 y2, .int .i64 y3] 42)) w9 := (Below.refl _ _).grown hg (by have := HLB.out; simp; omega) (fun q hq => (own_ge HOW.out q hq).1)
          have hbA : Below LB wr w9 := ((Below.refl LB wr).alloc (by have := HLB.out; omega) _).trans hb9
          have HB9 : Hid (Below w.heap.size w w9) := HB.out.trans (hbA.mono (by have := HRL.out; omega))
          have HX9 : Hid (TBx w9 w.heap.size t a) := tbx_low HX.out hbA (by have := HRL.out; omega)
          have HR9 : Hid (w9.heap[w.heap.size + 1]? = some (.cells #[.int .i64 0, .int .i64 0, .int .i64 0, .int .i64 0, .int .i64 0, .int .i64 0, .int .i64 0, .int .i64 0, .int .i64 0, .int .i64 0, .int .i64 0, .int .i64 0, .int .i64 0, .int .i64 0, .int .i64 0, .slice none 0 0, .slice none 0 0, .slice none 0 0, .slice none 0 0] 33 (0, 0))) := (hbA.block _ (by have := HRL.out; omega)).trans HR.out
          have HS9 : Hid (w9.heap[RB]? = some (.cells #[.int .i64 z1, .int .i64 z2, .int .i64 z3] 42 (0, 0))) := (hbA.block _ (by have := HRL.out; omega)).trans HSB.out
          have HO9 : Hid (w9.ownsRow LB 42 3 vv (len + 1) (gcat (slX (splM t.ss k f (m + 1))) (len + 1))) := (by have e := HGC.out; show World.ownsRow _ _ _ _ _ _ _; rw [e]; exact ho)
          obtain ⟨AN, cap2, hvv, hc2, hls⟩ := own_ls (k := 3) (fun j _ => slX_len _ j) HO9.out
          subst hvv
          have HP9 : Hid (LB < w9.heap.size) := (by have := hbA.size; have := HLB.out; show _ < _; omega)
          have HC9 : Hid (len + 1 ≤ cap2) := hc2
          clear ho hg hk2 hb9 hbA hls hc2)
       | fail)
      go_roundw
      case rel => exact ⟨m + 1, len + 1, cap2, AN, by omega, rfl, by first | rfl | go_num, HC9.out, by have := HLN.out; have := splM_len t.ss k f m; split at this <;> omega, HLN2.out, HB9.out, HX9.out, HR9.out, HS9.out, HO9.out, HP9.out⟩
      case measure => simp [intOf]; omega
end Go.Proofs.YtlomcdgfcocmmaaGreatDoor
namespace Go.Proofs.YtlomcdgfcocmmaaGreatDoor
open Go.ChangeShapes Go.WideShapes Go.ChangeAt Go.RowKit Go.Deep Go.Joins
set_option linter.unusedVariables false

/-- What slots must be, beside what all else of tables must. -/
structure SlG (t : Tb) (ss : List slT) : Prop where
  n1 : 1 ≤ ss.length
  n2 : ss.length ≤ 16
  pt : ∀ i, i < ss.length → 0 ≤ (ss.getD i sl0).1 ∧ (ss.getD i sl0).1 < (t.ps.length : Int)
  ln : ∀ i, i < ss.length → t.pad + t.grd < (ss.getD i sl0).2.2
  fr : ∀ i, i < ss.length → freeN ss i ≤ (ss.getD i sl0).2.1 ∧ (ss.getD i sl0).2.1 + (ss.getD i sl0).2.2 ≤ t.maj
theorem sd_slotsP {t : Tb} {ss : List slT} (h : Sd t) (g : SlG t ss) : Sd { t with ss := ss } := fun i hi => by
  by_cases c : i < 21
  · have hr := h i hi
    have e : ∀ i, i < 21 → R { t with ss := ss } i = R t i := fun i hi => by
      match i, hi with
      | 0, _ => rfl | 1, _ => rfl | 2, _ => rfl | 3, _ => rfl | 4, _ => rfl | 5, _ => rfl | 6, _ => rfl | 7, _ => rfl | 8, _ => rfl | 9, _ => rfl | 10, _ => rfl
      | 11, _ => rfl | 12, _ => rfl | 13, _ => rfl | 14, _ => rfl | 15, _ => rfl | 16, _ => rfl | 17, _ => rfl | 18, _ => rfl | 19, _ => rfl | 20, _ => rfl
      | n + 21, h => omega
    rw [e i c]
    exact hr
  · have hc : i = 21 ∨ i = 22 ∨ i = 23 ∨ i = 24 := by omega
    rcases hc with rfl | rfl | rfl | rfl
    · exact ⟨g.n1, g.n2⟩
    · exact g.pt
    · exact g.ln
    · exact g.fr
theorem slots_sd {t : Tb} (h : Sd t) : SlG t t.ss := by
  have h21 := h 21 (by omega)
  exact ⟨h21.1, h21.2, h 22 (by omega), h 23 (by omega), h 24 (by omega)⟩
theorem splL_len {ss : List slT} {k : Nat} {f : Int} (hk : k < ss.length) : (splL ss k f).length = ss.length + 1 := by
  simp only [splL, List.length_append, List.length_take, List.length_drop, List.length_cons, List.length_nil]
  omega
theorem splL_get {ss : List slT} {k : Nat} {f : Int} (hk : k < ss.length) (j : Nat) : (splL ss k f).getD j sl0 = if j < k then ss.getD j sl0 else if j = k then ((ss.getD k sl0).1, (ss.getD k sl0).2.1, f) else if j = k + 1 then ((ss.getD k sl0).1, (ss.getD k sl0).2.1 + f, (ss.getD k sl0).2.2 - f) else ss.getD (j - 1) sl0 := by
  have hl : (ss.take k).length = k := by rw [List.length_take]; omega
  simp only [splL, List.getD_eq_getElem?_getD, List.append_assoc]
  by_cases c : j < k
  · rw [if_pos c, List.getElem?_append_left (by omega), List.getElem?_take, if_pos c]
  · rw [if_neg c, List.getElem?_append_right (by omega), hl]
    by_cases e : j = k
    · subst e
      rw [if_pos rfl, Nat.sub_self]
      rfl
    · rw [if_neg e]
      by_cases e2 : j = k + 1
      · subst e2
        rw [if_pos rfl, Nat.add_sub_cancel_left]
        rfl
      · rw [if_neg e2, List.getElem?_append_right (by simp; omega), List.getElem?_drop]
        congr 2
        simp
        omega
/-- Slot k of ss can be cut behind its first f cycles. -/
def CutP (t : Tb) (ss : List slT) (k : Nat) (f : Int) : Prop := k < ss.length ∧ ss.length < 16 ∧ t.pad + t.grd < f ∧ t.pad + t.grd < (ss.getD k sl0).2.2 - f
instance (t : Tb) (ss : List slT) (k : Nat) (f : Int) : Decidable (CutP t ss k f) := by unfold CutP; infer_instance
theorem splL_ok {t : Tb} {ss : List slT} {k : Nat} {f : Int} (g : SlG t ss) (h : CutP t ss k f) (hp : 0 ≤ t.pad + t.grd) : SlG t (splL ss k f) := by
  obtain ⟨hk, h16, h1, h2⟩ := h
  have hl := splL_len (f := f) hk
  have hpk := g.pt k hk
  have hlk := g.ln k hk
  have hfk := g.fr k hk
  refine ⟨by omega, by omega, fun i hi => ?_, fun i hi => ?_, fun i hi => ?_⟩
  · rw [splL_get hk]
    split
    · exact g.pt i (by omega)
    · split
      · exact hpk
      · split
        · exact hpk
        · exact g.pt (i - 1) (by omega)
  · rw [splL_get hk]
    split
    · exact g.ln i (by omega)
    · split
      · exact h1
      · split
        · exact h2
        · exact g.ln (i - 1) (by omega)
  · match i, hi with
    | 0, hi =>
      show (0 : Int) ≤ _ ∧ _
      have g0 : 0 ≤ (ss.getD 0 sl0).2.1 ∧ (ss.getD 0 sl0).2.1 + (ss.getD 0 sl0).2.2 ≤ t.maj := g.fr 0 (by omega)
      rw [splL_get hk]
      split
      · exact g0
      · have e : k = 0 := by omega
        subst e
        rw [if_pos rfl]
        exact ⟨g0.1, by show (ss.getD 0 sl0).2.1 + f ≤ t.maj; omega⟩
    | i + 1, hi =>
      show ((splL ss k f).getD i sl0).2.1 + ((splL ss k f).getD i sl0).2.2 ≤ _ ∧ _
      rw [splL_get hk, splL_get hk]
      by_cases c1 : i + 1 < k
      · have gi : (ss.getD i sl0).2.1 + (ss.getD i sl0).2.2 ≤ (ss.getD (i + 1) sl0).2.1 ∧ (ss.getD (i + 1) sl0).2.1 + (ss.getD (i + 1) sl0).2.2 ≤ t.maj := g.fr (i + 1) (by omega)
        rw [if_pos (by omega), if_pos c1]
        exact gi
      · by_cases c2 : i + 1 = k
        · subst c2
          have gi : (ss.getD i sl0).2.1 + (ss.getD i sl0).2.2 ≤ (ss.getD (i + 1) sl0).2.1 ∧ (ss.getD (i + 1) sl0).2.1 + (ss.getD (i + 1) sl0).2.2 ≤ t.maj := g.fr (i + 1) (by omega)
          rw [if_pos (by omega), if_neg (by omega), if_pos rfl]
          exact ⟨gi.1, by show (ss.getD (i + 1) sl0).2.1 + f ≤ t.maj; omega⟩
        · by_cases c3 : i = k
          · subst c3
            rw [if_neg (by omega), if_pos rfl, if_neg (by omega), if_neg (by omega), if_pos rfl]
            exact ⟨Int.le_refl _, by show (ss.getD i sl0).2.1 + f + ((ss.getD i sl0).2.2 - f) ≤ t.maj; omega⟩
          · have hi1 : i < ss.length := by omega
            rw [if_neg (by omega : ¬ i < k), if_neg (by omega : ¬ i = k), if_neg (by omega : ¬ i + 1 < k), if_neg (by omega : ¬ i + 1 = k), if_neg (by omega : ¬ i + 1 = k + 1), Nat.add_sub_cancel]
            by_cases c4 : i = k + 1
            · subst c4
              rw [if_pos rfl]
              have gi : (ss.getD k sl0).2.1 + (ss.getD k sl0).2.2 ≤ (ss.getD (k + 1) sl0).2.1 ∧ (ss.getD (k + 1) sl0).2.1 + (ss.getD (k + 1) sl0).2.2 ≤ t.maj := g.fr (k + 1) hi1
              exact ⟨by show (ss.getD k sl0).2.1 + f + ((ss.getD k sl0).2.2 - f) ≤ _; omega, gi.2⟩
            · rw [if_neg c4]
              obtain ⟨j, rfl⟩ : ∃ j, i = j + 1 := ⟨i - 1, by omega⟩
              exact g.fr (j + 1) hi1
/-- The slots behind a look at slot i. -/
def evS (t : Tb) (p f : Int) (i : Nat) (ss : List slT) : List slT := if (ss.getD i sl0).1 = p ∧ CutP t ss i f then splL ss i f else ss
/-- The slots behind n looks. -/
def evF (t : Tb) (p f : Int) : Nat → List slT
  | 0 => t.ss
  | n + 1 => evS t p f n (evF t p f n)
theorem evF_ok {t : Tb} (h : Sd t) (p f : Int) : ∀ n, SlG t (evF t p f n)
  | 0 => slots_sd h
  | n + 1 => by
    have ih := evF_ok h p f n
    have h4 : 1 ≤ t.pad ∧ t.pad ≤ 5000 := h 4 (by omega)
    have h5 : 1 ≤ t.grd ∧ t.grd ≤ 5000 := h 5 (by omega)
    show SlG t (evS t p f n (evF t p f n))
    unfold evS
    split
    · rename_i c
      exact splL_ok ih c.2 (by omega)
    · exact ih
theorem evF_sd {t : Tb} (h : Sd t) (p f : Int) (n : Nat) : Sd { t with ss := evF t p f n } := sd_slotsP h (evF_ok h p f n)
theorem evF_yes {t : Tb} {p f : Int} {n : Nat} (h1 : ((evF t p f n).getD n sl0).1 = p) (h2 : CutP t (evF t p f n) n f) : evF t p f (n + 1) = splL (evF t p f n) n f := if_pos ⟨h1, h2⟩
theorem evF_no {t : Tb} {p f : Int} {n : Nat} (h : ¬ (((evF t p f n).getD n sl0).1 = p ∧ CutP t (evF t p f n) n f)) : evF t p f (n + 1) = evF t p f n := if_neg h
theorem evF_stop {t : Tb} {p f : Int} {n : Nat} (h : (evF t p f n).length ≤ n) : ∀ m, n ≤ m → evF t p f m = evF t p f n := by
  intro m
  induction m with
  | zero => intro h0; obtain rfl : n = 0 := by omega
            rfl
  | succ m ih =>
    intro hm
    by_cases e : n = m + 1
    · subst e; rfl
    · have em := ih (by omega)
      have hn : evF t p f (m + 1) = evF t p f m := evF_no (fun c => by have := c.2.1; rw [em] at this; omega)
      rw [hn, em]
/-- What Even answers. -/
def EvA (t : Tb) (p f : Int) (R : Tb) (q : Bool) : Prop := (¬ (Sd t ∧ 0 ≤ p ∧ p < (t.ps.length : Int)) ∧ R = tz ∧ q = false) ∨ ((Sd t ∧ 0 ≤ p ∧ p < (t.ps.length : Int)) ∧ R = { t with ss := evF t p f 16 } ∧ q = true)
theorem EvA.uniq {t : Tb} {p f : Int} {R R' : Tb} {q q' : Bool} (h : EvA t p f R q) (g : EvA t p f R' q') : R = R' ∧ q = q' := by
  rcases h with ⟨h1, h2, h3⟩ | ⟨h1, h2, h3⟩ <;> rcases g with ⟨g1, g2, g3⟩ | ⟨g1, g2, g3⟩
  · exact ⟨h2.trans g2.symm, h3.trans g3.symm⟩
  · exact absurd g1 h1
  · exact absurd h1 g1
  · exact ⟨h2.trans g2.symm, h3.trans g3.symm⟩
end Go.Proofs.YtlomcdgfcocmmaaGreatDoor
namespace Go.Proofs.YtlomcdgfcocmmaaGreatDoor
open Go.ChangeShapes Go.WideShapes Go.ChangeAt Go.RowKit Go.Deep Go.Joins
set_option linter.unusedVariables false

set_option maxRecDepth 20000 in
set_option maxHeartbeats 4000000 in
theorem grow_sl (N : Nat) (w : World) (h1 : 1 ≤ N) (h2 : N ≤ 60) : Calls Tryz.prog 93 #[.slice none 0 0, .int .i64 (N : Int)] w fun e w' => ∃ G, e = .returned (.slice (some ⟨w.heap.size, 0, none⟩) 0 G) ∧ w'.ownsRow w.heap.size 42 3 (.slice (some ⟨w.heap.size, 0, none⟩) 0 G) 0 [] ∧ Below w.heap.size w w' := by
  obtain ⟨i0, hi0, hz0, hs0, hb0⟩ := sli
  have hGn : N ≤ grownCap w N 0 42 := grownCap_ge w _ _ _
  have hrz : ∀ ty, (Builtin.append_ #[31, 3] ty #[.slice none 0 0, .int .i64 (N : Int)]).run Tryz.prog w = .ok (.slice (some ⟨w.heap.size, 0, none⟩) N (grownCap w N 0 42)) (w.drew.alloc (.cells (([] : List Value).toArray ++ Builtin.zeroCells (Value.cells (.agg #[.int .i64 0, .int .i64 0, .int .i64 0])) N ++ Builtin.zeroCells (Value.cells (.agg #[.int .i64 0, .int .i64 0, .int .i64 0])) (grownCap w N 0 42 - N)) 42)) := fun ty => by
    have h := Lib.run_append_grow_zeros (P := Tryz.prog) w 31 3 ty 42 i0 _ .i64 .i64 Tryz.underlying31 Tryz.underlying3 hi0 hz0 none 0 0 [] (by rw [hs0]; exact run_firstCells_none w.drew 3 0 0 0) N (by omega) (by omega) (by omega) (by omega) (by rw [hb0]; omega) (by rw [hb0, Nat.zero_add, nextslicecap_zero (by omega)]; omega)
    simpa using h
  have hG63 : grownCap w N 0 42 ≤ 9223372036854775807 := by
    have := grownCap_le_maxLen w N 0 42 (by unfold maxLen; omega)
    unfold maxLen at this
    omega
  have hbel : ∀ ob, Below w.heap.size w (w.alloc ob).drew := fun ob => ((Below.refl _ w).alloc (Nat.le_refl _) _).drew
  have hown : ∀ (G : Nat) (cs : Array Value), G ≤ maxLen → cs.size = G * 3 → (w.alloc (.cells cs 42)).drew.ownsRow w.heap.size 42 3 (.slice (some ⟨w.heap.size, 0, none⟩) 0 G) 0 [] := fun G cs hM hG =>
    ⟨rfl, .inr ⟨w.heap.size, G, cs, rfl, Nat.le_refl _, by show (w.heap.push _)[w.heap.size]? = _; simp, Nat.zero_le _, hM, hG, by simp⟩⟩
  have hsz : ∀ G, N ≤ G → (Builtin.zeroCells #[.int .i64 0, .int .i64 0, .int .i64 0] N ++ Builtin.zeroCells #[.int .i64 0, .int .i64 0, .int .i64 0] (G - N)).size = G * 3 := fun G hG => by
    simp only [Array.size_append, size_zeroCells]
    simp
    omega
  generalize grownCap w N 0 42 = G at *
  have HO : Hid ((w.alloc (.cells (Builtin.zeroCells #[.int .i64 0, .int .i64 0, .int .i64 0] N ++ Builtin.zeroCells #[.int .i64 0, .int .i64 0, .int .i64 0] (G - N)) 42)).drew.ownsRow w.heap.size 42 3 (.slice (some ⟨w.heap.size, 0, none⟩) 0 G) 0 []) := hown G _ (by unfold maxLen; omega) (hsz G hGn)
  have HBL : Hid (Below w.heap.size w (w.alloc (.cells (Builtin.zeroCells #[.int .i64 0, .int .i64 0, .int .i64 0] N ++ Builtin.zeroCells #[.int .i64 0, .int .i64 0, .int .i64 0] (G - N)) 42)).drew) := hbel _
  clear hown hsz hbel hi0 hz0 hs0 hb0
  go_enter Tryz.func93, Tryz.ntmps93
  go_wp2_with (at_builtin; refine Lib.wpList_append_run _ rfl _ _ _ _ rfl _ _ rfl rfl _ _ (hrz _) ?_)
  all_goals (go_ret; exact ⟨G, rfl, HO.out, HBL.out⟩)
theorem seg_wr {k lo hi n : Nat} {w : World} {a : Option Addr} {X : Nat → List Value} (h : GSeg k w a n X) (g : WR k lo hi w a n) : GSegL k lo w a n X := fun h0 => by
  obtain ⟨b, off, e, hlt, hc⟩ := h h0
  obtain ⟨b2, o2, e2, q1, _, _, _, q5⟩ := g h0
  rw [e] at e2
  injection e2 with e2
  injection e2 with e3 e4
  subst e3
  exact ⟨b, off, e, q1, hlt, hc, fun _ => q5⟩
/-- Three lists, named by a row of slices. -/
structure Thr (w : World) (C : Nat) (A : Nat → Option Addr) (L cp : Nat → Nat) (Xs : Nat → List slT) (N : Nat) : Prop where
  c : ∀ i, i < 3 → w.cell? ⟨C, i, none⟩ = some (.slice (A i) (L i) (cp i))
  l : ∀ i, i < 3 → (Xs i).length = L i
  n : L 0 + L 1 + L 2 = N
  g : ∀ i, i < 3 → GSeg 3 w (A i) (L i) (slX (Xs i))
theorem Thr.below {w w' : World} {C : Nat} {A : Nat → Option Addr} {L cp : Nat → Nat} {Xs : Nat → List slT} {N : Nat} (h : Thr w C A L cp Xs N) (hb : Below w.heap.size w w') : Thr w' C A L cp Xs N :=
  ⟨fun i hi => kept_cell hb (h.c i hi), h.l, h.n, fun i hi => (h.g i hi).below hb⟩
def catN (Xs : Nat → List slT) : Nat → List slT
  | 0 => []
  | m + 1 => catN Xs m ++ Xs m
theorem Thr.le {w : World} {C : Nat} {A : Nat → Option Addr} {L cp : Nat → Nat} {Xs : Nat → List slT} {N : Nat} (h : Thr w C A L cp Xs N) : ∀ m, m ≤ 3 → (catN Xs m).length ≤ N ∧ (m = 3 → (catN Xs m).length = N) := by
  intro m hm
  have h0 := h.l 0 (by omega)
  have h1 := h.l 1 (by omega)
  have h2 := h.l 2 (by omega)
  have hn := h.n
  have : m = 0 ∨ m = 1 ∨ m = 2 ∨ m = 3 := by omega
  rcases this with rfl | rfl | rfl | rfl <;> simp [catN] <;> omega
set_option maxRecDepth 20000 in
set_option maxHeartbeats 8000000 in
theorem concat_sl (C N : Nat) (A : Nat → Option Addr) (L cp : Nat → Nat) (Xs : Nat → List slT) (w : World) (hf : Thr w C A L cp Xs N) (h1 : 1 ≤ N) (h2 : N ≤ 60) :
    Calls Tryz.prog 66 #[.slice (some ⟨C, 0, none⟩) 3 3] w fun e w' => (∃ A' c, e = .returned (.slice A' N c) ∧ GSegL 3 w.heap.size w' A' N (slX (catN Xs 3)) ∧ N ≤ c) ∧ Below w.heap.size w w' := by
  have HF : Hid (Thr w C A L cp Xs N) := hf
  obtain ⟨iS, hi1, hi2, hi3, hi4⟩ := sli
  have HIS : Hid (Tryz.prog.info? 42 = some iS ∧ iS.zero = some (.agg #[.int .i64 0, .int .i64 0, .int .i64 0]) ∧ iS.size = 3 ∧ iS.bytes = 24) := ⟨hi1, hi2, hi3, hi4⟩
  clear hi1 hi2 hi3 hi4
  clear hf
  go_enter Tryz.func66, Tryz.ntmps66
  go_wp2
  go_loopw [3, 11] (fun v i wr => ∃ m s : Nat, m ≤ 3 ∧ s ≤ 60 ∧ i = .int .i64 m ∧ v = .int .i64 (s : Int) ∧ wr = w ∧ Hid (s = (catN Xs m).length)) (fun _ i _ => 3 - (intOf i).toNat)
  case atStart => exact ⟨0, 0, by omega, by omega, rfl, rfl, rfl, rfl⟩
  case round =>
    obtain ⟨m, s, hm, hs, rfl, rfl, rfl, HS⟩ := hrel
    by_cases hmn : m < 3
    · have hmn' : (m : Int) < 3 := by omega
      have hc := HF.out.c m hmn
      have hle := (HF.out.le (m + 1) (by omega)).1
      have HS2 : Hid (s + L m = (catN Xs (m + 1)).length) := by show _ = _; rw [catN, List.length_append, ← HS.out, HF.out.l m hmn]
      have hs2 : s + L m ≤ 60 := by have := HS2.out; omega
      generalize L m = l at hc HS2 hs2
      generalize A m = am at hc
      generalize cp m = cm at hc
      clear HS hle
      go_wp2
      go_roundw
      case rel => exact ⟨m + 1, s + l, by omega, hs2, by go_num, by go_num, trivial, HS2⟩
      case measure => simp [intOf]; omega
    · obtain rfl : m = 3 := by omega
      have hsN : s = N := HS.out.trans ((HF.out.le 3 (by omega)).2 rfl)
      subst hsN
      clear HS
      go_wp2_with fail
      refine (grow_sl s _ h1 h2).mono ?_
      rintro e w1 ⟨G, rfl, hown, hb1⟩
      have HB1 : Hid (Below wr.heap.size wr w1) := hb1
      have HO1 : Hid (w1.ownsRow wr.heap.size 42 3 (.slice (some ⟨wr.heap.size, 0, none⟩) 0 G) 0 []) := hown
      clear hb1 hown
      go_wp2
      go_loopw [6, 27] (fun v i wq => ∃ (m len : Nat), m ≤ 3 ∧ len ≤ s ∧ i = .int .i64 m ∧ Hid ((catN Xs m).length = len) ∧ Hid (Below wr.heap.size wr wq) ∧ Hid (wq.ownsRow wr.heap.size 42 3 v len (gcat (slX (catN Xs m)) len))) (fun _ i _ => 3 - (intOf i).toNat)
      case atStart => exact ⟨0, 0, by omega, by omega, rfl, rfl, HB1.out, HO1.out⟩
      case round =>
        rename World => wq
        obtain ⟨m, len, hm, hls, rfl, HLN, HB, HOW⟩ := hrel
        by_cases hmn : m < 3
        rotate_left
        · obtain rfl : m = 3 := by omega
          have hls2 : len = s := HLN.out.symm.trans ((HF.out.le 3 (by omega)).2 rfl)
          subst hls2
          obtain ⟨A', c, e, hcc, hg0, hwr⟩ := own_gen (k := 3) (fun j _ => slX_len _ j) HOW.out
          subst e
          have hg := seg_wr hg0 hwr
          have HE : Hid (GSegL 3 wr.heap.size wq A' len (slX (catN Xs 3)) ∧ Below wr.heap.size wr wq ∧ len ≤ c) := ⟨hg, HB.out, hcc⟩
          clear hg hg0 hwr HOW HB
          go_wp2
          go_ret
          exact ⟨⟨A', c, rfl, HE.out.1, HE.out.2.2⟩, HE.out.2.1⟩
        have hmn' : (m : Int) < 3 := by omega
        have hc := kept_cell HB.out (HF.out.c m hmn)
        have HG : Hid (GSeg 3 wq (A m) (L m) (slX (Xs m))) := (HF.out.g m hmn).below HB.out
        have hle := (HF.out.le (m + 1) (by omega)).1
        have HLN2 : Hid ((catN Xs (m + 1)).length = len + L m) := by show _ = _; rw [catN, List.length_append, HLN.out, HF.out.l m hmn]
        have hl2 : len + L m ≤ s := by have := HLN2.out; omega
        have HGC : Hid (gcat (slX (catN Xs (m + 1))) (len + L m) = gcat (slX (catN Xs m)) len ++ gcat (slX (Xs m)) (L m)) := by
          have e := slX_app (catN Xs m) (Xs m)
          rw [List.length_append, HLN.out, HF.out.l m hmn] at e
          exact e
        generalize L m = l at hc HG HLN2 hl2 HGC
        generalize A m = am at hc HG
        generalize cp m = cm at hc
        clear hle HLN
        go_wp2_with (first
       | (at_builtin
          refine wpList_append_any rfl (.tmp 31) (.tmp 32) 31 rfl wr.heap.size 42 iS (.agg #[.int .i64 0, .int .i64 0, .int .i64 0]) 3 24 Tryz.underlying31 HIS.out.1 HIS.out.2.1 HIS.out.2.2.1 HIS.out.2.2.2 rfl (by decide) (_) len (gcat (slX (catN Xs m)) len) rfl HOW.out am l cm (gcat (slX (Xs m)) l) rfl (gcat_len fun j _ => slX_len _ j) (newsP_of (by decide) (fun j => slX_len _ j) HG.out) (gcat_one fun j _ => slX_one _ j) (by unfold maxLen; omega) (by omega) HB.out.size ?_
          intro vv w9 ho hg hk2
          have HB9 : Hid (Below wr.heap.size wr w9) := HB.out.grown hg HB.out.size (fun q hq => (own_ge HOW.out q hq).1)
          have HO9 : Hid (w9.ownsRow wr.heap.size 42 3 vv (len + l) (gcat (slX (catN Xs (m + 1))) (len + l))) := (by have e := HGC.out; show World.ownsRow _ _ _ _ _ _ _; rw [e]; exact ho)
          clear ho hg hk2)
       | fail)
        go_roundw
        case rel => exact ⟨m + 1, len + l, by omega, hl2, by go_num, HLN2.out, HB9.out, HO9.out⟩
        case measure => simp [intOf]; omega
end Go.Proofs.YtlomcdgfcocmmaaGreatDoor
