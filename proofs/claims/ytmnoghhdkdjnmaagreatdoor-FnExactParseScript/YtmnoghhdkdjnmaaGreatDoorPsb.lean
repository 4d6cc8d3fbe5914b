
/-
  What the specification's l21Line returns: the command and the code of a line. Conditions: the lists lie in memory; the line is at most 1048576 bytes long.
-/
import Derived.Test.YtmnoghhdkdjnmaaGreatDoorBas
import Derived.Test.YtmnoghhdkdjnmaaGreatDoorPsa
namespace Go.Proofs.YtmnoghhdkdjnmaaGreatDoor
open Go.ChangeShapes Go.WideShapes Go.ChangeAt Go.RowKit Go.Deep Go.Joins
set_option linter.unusedVariables false

theorem row_c {w : World} {B : Nat} {cs : Array Value} {ty : TypeId} (h : w.heap[B]? = some (.cells cs ty (0, 0))) (j : Nat) (v : Value) (hj : cs[j]? = some v) : w.cell? ⟨B, j, none⟩ = some v := by simp [World.cell?, h, hj]
theorem krun_list : Sr.krun.toList = [114, 117, 110] := by rw [ByteArray.toList_eq]
theorem kinp_list : Sr.kinp.toList = [105, 110, 112, 117, 116] := by rw [ByteArray.toList_eq]
theorem kres_list : Sr.kres.toList = [114, 101, 115, 116, 97, 114, 116] := by rw [ByteArray.toList_eq]
theorem ne_run {k : ByteArray} (h : ¬ k = Sr.krun) : (k.toList == [114, 117, 110]) = false := by
  have := Tx.list_ne k Sr.krun h
  rw [krun_list] at this
  exact this
theorem ne_inp {k : ByteArray} (h : ¬ k = Sr.kinp) : (k.toList == [105, 110, 112, 117, 116]) = false := by
  have := Tx.list_ne k Sr.kinp h
  rw [kinp_list] at this
  exact this
theorem ne_res {k : ByteArray} (h : ¬ k = Sr.kres) : (k.toList == [114, 101, 115, 116, 97, 114, 116]) = false := by
  have := Tx.list_ne k Sr.kres h
  rw [kres_list] at this
  exact this
theorem eq_run : (Sr.krun.toList == [114, 117, 110]) = true := by rw [krun_list]; rfl
theorem eq_inp : (Sr.kinp.toList == [105, 110, 112, 117, 116]) = true := by rw [kinp_list]; rfl
theorem eq_res : (Sr.kres.toList == [114, 101, 115, 116, 97, 114, 116]) = true := by rw [kres_list]; rfl
theorem inp_run : ¬ Sr.kinp = Sr.krun := fun h => by
  have := congrArg ByteArray.size h
  cases this
theorem res_run : ¬ Sr.kres = Sr.krun := fun h => by
  have := congrArg ByteArray.size h
  cases this
theorem res_inp : ¬ Sr.kres = Sr.kinp := fun h => by
  have := congrArg ByteArray.size h
  cases this
theorem run_inp : ¬ Sr.krun = Sr.kinp := fun h => inp_run h.symm
theorem run_res : ¬ Sr.krun = Sr.kres := fun h => res_run h.symm
theorem inp_res : ¬ Sr.kinp = Sr.kres := fun h => res_inp h.symm
/-- The words of a line, from its split on. -/
def LS (w : World) (t : Tb) (a : Ad) (s : ByteArray) : Prop := PSegL 0 w a.pa a.pn t.ps a.Y ∧ t.ps.length = a.pn ∧ a.pn ≤ 1048576 ∧ s.size ≤ 1048576
set_option maxRecDepth 40000 in
set_option maxHeartbeats 8000000 in
theorem sl_run0 (t : Tb) (a : Ad) (s : ByteArray) (n : Nat) (ws : List ByteArray) (w : World) (hls : LS w t a s) (hws : Sp.texts 32 s = ws) (hn : ws.length = n) (hk0 : ws.getD 0 ⟨#[]⟩ = Sr.krun) (h2 : n = 2) (hq : Sr.numV (ws.getD 1 ⟨#[]⟩) 50000 = none) :
    Calls Tryz.prog 44 #[tbV t a, .string s] w fun e w' => e = .returned (.tuple #[.agg #[.int .i64 0, .int .i64 0, .int .u32 0], .int .i64 2]) ∧ Below w.heap.size w w' := by
  have HB0 : Hid (Below w.heap.size w ((w.alloc (.cells (tbA t a) 43)).alloc (.cells #[.int .i64 0, .int .i64 0, .int .u32 0] 62))) := ((Below.refl _ _).alloc (Nat.le_refl _) _).alloc (by simp) _
  have HX0 : Hid (TBx ((w.alloc (.cells (tbA t a) 43)).alloc (.cells #[.int .i64 0, .int .i64 0, .int .u32 0] 62)) w.heap.size t a) := (TBx.new w t a _ rfl).below ((Below.refl _ _).alloc (Nat.le_refl _) _)
  have HK0 : Hid (((w.alloc (.cells (tbA t a) 43)).alloc (.cells #[.int .i64 0, .int .i64 0, .int .u32 0] 62)).heap[w.heap.size + 1]? = some (.cells #[.int .i64 0, .int .i64 0, .int .u32 0] 62 (0, 0))) := new_row (w.alloc (.cells (tbA t a) 43)) #[.int .i64 0, .int .i64 0, .int .u32 0] 62 _ (by simp)
  have hnp : 0 < n := by rw [← hn, ← hws]; exact Sr.texts_pos 32 s
  have hnb : n ≤ 1048577 := by
    rw [← hn, ← hws]
    have h1 := Sp.cut_many 32 s.data.toList
    have h2 : s.data.toList.length = s.size := rfl
    have h3 := hls.2.2.2
    unfold Sp.texts
    rw [List.length_map]
    omega
  have HSZ : Hid (∀ j, (ws.getD j ⟨#[]⟩).size ≤ 1048576) := fun j => by
    by_cases hj : j < ws.length
    · have h1 := Sr.texts_short 32 s (ws.getD j ⟨#[]⟩) (by rw [hws]; exact getD_in ws _ j hj)
      have := hls.2.2.2
      omega
    · rw [List.getD_eq_getElem?_getD, List.getElem?_eq_none (by omega)]
      decide
  have HSL : Hid (Calls Tryz.prog 72 #[.string s] ((w.alloc (.cells (tbA t a) 43)).alloc (.cells #[.int .i64 0, .int .i64 0, .int .u32 0] 62)) fun e w' => ∃ b off cap, e = .returned (.slice (some ⟨b, off, none⟩) n cap) ∧ n ≤ cap ∧ (∀ j, j < n → w'.cell? ⟨b, off + j, none⟩ = some (.string (ws.getD j ⟨#[]⟩))) ∧ Below ((w.alloc (.cells (tbA t a) 43)).alloc (.cells #[.int .i64 0, .int .i64 0, .int .u32 0] 62)).heap.size ((w.alloc (.cells (tbA t a) 43)).alloc (.cells #[.int .i64 0, .int .i64 0, .int .u32 0] 62)) w') := (spec_split s _ hls.2.2.2).mono fun e w' h => by
    obtain ⟨A, cap, h1, h2, h3, h4⟩ := h
    rw [hws] at h1 h2 h3
    rw [hn] at h1 h2
    obtain ⟨b, off, h5, h6, h7⟩ := flds_at h3 0 (by omega)
    subst h5
    exact ⟨b, off, cap, h1, h2, fun j hj => h7 j (by omega), h4⟩
  have HLS : Hid (∀ X, Below w.heap.size w X → PSegL 0 X a.pa a.pn t.ps a.Y) := fun X hX => hls.1.below hX
  have HL : Hid (t.ps.length = a.pn ∧ a.pn ≤ 1048576) := ⟨hls.2.1, hls.2.2.1⟩
  clear hls hws hn
  subst h2
  go_enter Tryz.func44, Tryz.ntmps44
  go_wp2_with fail
  refine Calls.mono HSL.out ?_
  rintro e w1 ⟨b, off, cap, rfl, hcap, hcl, hb1⟩
  have HN1 : Hid ((w1.alloc (.cells #[.int .i64 0, .int .i64 0, .int .u32 0] 62)).heap[w1.heap.size]? = some (.cells #[.int .i64 0, .int .i64 0, .int .u32 0] 62 (0, 0))) := new_row w1 _ _ _ rfl
  have hba : Below w1.heap.size w1 ((w1.alloc (.cells #[.int .i64 0, .int .i64 0, .int .u32 0] 62)).setRow w1.heap.size #[.int .i64 0, .int .i64 0, .int .u32 0]) := below_setRow ((Below.refl _ _).alloc (Nat.le_refl _) _) (Nat.le_refl _) _
  have hbt : Below ((w.alloc (.cells (tbA t a) 43)).alloc (.cells #[.int .i64 0, .int .i64 0, .int .u32 0] 62)).heap.size ((w.alloc (.cells (tbA t a) 43)).alloc (.cells #[.int .i64 0, .int .i64 0, .int .u32 0] 62)) ((w1.alloc (.cells #[.int .i64 0, .int .i64 0, .int .u32 0] 62)).setRow w1.heap.size #[.int .i64 0, .int .i64 0, .int .u32 0]) := hb1.trans (hba.mono hb1.size)
  have HB1 : Hid (Below w.heap.size w ((w1.alloc (.cells #[.int .i64 0, .int .i64 0, .int .u32 0] 62)).setRow w1.heap.size #[.int .i64 0, .int .i64 0, .int .u32 0])) := HB0.out.trans (hbt.mono HB0.out.size)
  have HX1 : Hid (TBx ((w1.alloc (.cells #[.int .i64 0, .int .i64 0, .int .u32 0] 62)).setRow w1.heap.size #[.int .i64 0, .int .i64 0, .int .u32 0]) w.heap.size t a) := HX0.out.below hbt
  have HR2 : Hid (((w1.alloc (.cells #[.int .i64 0, .int .i64 0, .int .u32 0] 62)).setRow w1.heap.size #[.int .i64 0, .int .i64 0, .int .u32 0]).heap[w.heap.size + 1]? = some (.cells #[.int .i64 0, .int .i64 0, .int .u32 0] 62 (0, 0))) := row_below HK0.out hbt
  have HRB : Hid (((w1.alloc (.cells #[.int .i64 0, .int .i64 0, .int .u32 0] 62)).setRow w1.heap.size #[.int .i64 0, .int .i64 0, .int .u32 0]).heap[w1.heap.size]? = some (.cells #[.int .i64 0, .int .i64 0, .int .u32 0] 62 (0, 0))) := setRow_heap _ _ _ _ _ _ HN1.out
  have z0 : ((w1.alloc (.cells #[.int .i64 0, .int .i64 0, .int .u32 0] 62)).setRow w1.heap.size #[.int .i64 0, .int .i64 0, .int .u32 0]).cell? ⟨w1.heap.size, 0, none⟩ = some (.int .i64 0) := row_c HRB.out 0 _ rfl
  have z1 : ((w1.alloc (.cells #[.int .i64 0, .int .i64 0, .int .u32 0] 62)).setRow w1.heap.size #[.int .i64 0, .int .i64 0, .int .u32 0]).cell? ⟨w1.heap.size, 1, none⟩ = some (.int .i64 0) := row_c HRB.out 1 _ rfl
  have z2 : ((w1.alloc (.cells #[.int .i64 0, .int .i64 0, .int .u32 0] 62)).setRow w1.heap.size #[.int .i64 0, .int .i64 0, .int .u32 0]).cell? ⟨w1.heap.size, 2, none⟩ = some (.int .u32 0) := row_c HRB.out 2 _ rfl
  have hv0 : ((w1.alloc (.cells #[.int .i64 0, .int .i64 0, .int .u32 0] 62)).setRow w1.heap.size #[.int .i64 0, .int .i64 0, .int .u32 0]).cell? ⟨b, off, none⟩ = some (.string (ws.getD 0 ⟨#[]⟩)) := by
    have := cell_kept hba (hcl 0 (by omega))
    simpa using this
  have hv1 : ((w1.alloc (.cells #[.int .i64 0, .int .i64 0, .int .u32 0] 62)).setRow w1.heap.size #[.int .i64 0, .int .i64 0, .int .u32 0]).cell? ⟨b, off + 1, none⟩ = some (.string (ws.getD 1 ⟨#[]⟩)) := cell_kept hba (hcl 1 (by omega))
  have hsz := HSZ.out
  clear hb1 hba hbt HB0 HX0 HK0 HSL hcl
  rw [hk0] at hv0
  have trun := eq_run
  have tinp := ne_inp run_inp
  have tres := ne_res run_res
  go_wp2_with (first | (refine wpList_store_row rfl 62 (.tmp 7) (.tmp 17) rfl w1.heap.size #[.int .i64 0, .int .i64 0, .int .u32 0] rfl rfl 62 #[.int .i64 0, .int .i64 0, .int .u32 0] HN1.out (by kernel_rfl) rfl (by simp [Value.oneCell']) ?_) | fail)
  refine Calls.mono (spec_num (ws.getD 1 ⟨#[]⟩) 50000 _ (HSZ.out _)) ?_
  rintro e w5 ⟨rfl, hw5⟩
  subst hw5
  rw [show tell (Dc.ans (Tx.nums (ws.getD 1 ⟨#[]⟩)) 50000) = .returned (.tuple #[.int .i64 0, .bool false]) by rw [show Dc.ans (Tx.nums (ws.getD 1 ⟨#[]⟩)) 50000 = _ from hq]; rfl]
  have HRF : Hid ((((w1.alloc (.cells #[.int .i64 0, .int .i64 0, .int .u32 0] 62)).setRow w1.heap.size #[.int .i64 0, .int .i64 0, .int .u32 0]).setRow (w.heap.size + 1) #[.int .i64 0, .int .i64 0, .int .u32 0]).heap[w.heap.size + 1]? = some (.cells #[.int .i64 0, .int .i64 0, .int .u32 0] 62 (0, 0))) := setRow_heap _ _ _ _ _ _ HR2.out
  have n0 : (((w1.alloc (.cells #[.int .i64 0, .int .i64 0, .int .u32 0] 62)).setRow w1.heap.size #[.int .i64 0, .int .i64 0, .int .u32 0]).setRow (w.heap.size + 1) #[.int .i64 0, .int .i64 0, .int .u32 0]).cell? ⟨w.heap.size + 1, 0, none⟩ = some (.int .i64 0) := row_c HRF.out 0 _ rfl
  have n1 : (((w1.alloc (.cells #[.int .i64 0, .int .i64 0, .int .u32 0] 62)).setRow w1.heap.size #[.int .i64 0, .int .i64 0, .int .u32 0]).setRow (w.heap.size + 1) #[.int .i64 0, .int .i64 0, .int .u32 0]).cell? ⟨w.heap.size + 1, 1, none⟩ = some (.int .i64 0) := row_c HRF.out 1 _ rfl
  have n2 : (((w1.alloc (.cells #[.int .i64 0, .int .i64 0, .int .u32 0] 62)).setRow w1.heap.size #[.int .i64 0, .int .i64 0, .int .u32 0]).setRow (w.heap.size + 1) #[.int .i64 0, .int .i64 0, .int .u32 0]).cell? ⟨w.heap.size + 1, 2, none⟩ = some (.int .u32 0) := row_c HRF.out 2 _ rfl
  have HBF : Hid (Below w.heap.size w (((w1.alloc (.cells #[.int .i64 0, .int .i64 0, .int .u32 0] 62)).setRow w1.heap.size #[.int .i64 0, .int .i64 0, .int .u32 0]).setRow (w.heap.size + 1) #[.int .i64 0, .int .i64 0, .int .u32 0])) := below_setRow HB1.out (by omega) _
  clear HB1 HX1
  go_wp2_with (first | (refine wpList_store_row rfl 62 (.tmp 4) (.tmp 41) rfl (w.heap.size + 1) #[.int .i64 0, .int .i64 0, .int .u32 0] rfl rfl 62 #[.int .i64 0, .int .i64 0, .int .u32 0] HR2.out (by kernel_rfl) rfl (by simp [Value.oneCell']) ?_) | fail)
  exact bodyPost_ret (v := .tuple #[.agg #[.int .i64 0, .int .i64 0, .int .u32 0], .int .i64 2]) (by simp [results, Tryz.results44, go_sem, n0, n1, n2]) rfl ⟨rfl, HBF.out⟩
set_option maxRecDepth 40000 in
set_option maxHeartbeats 8000000 in
theorem sl_run1 (t : Tb) (a : Ad) (s : ByteArray) (n : Nat) (ws : List ByteArray) (w : World) (hls : LS w t a s) (hws : Sp.texts 32 s = ws) (hn : ws.length = n) (hk0 : ws.getD 0 ⟨#[]⟩ = Sr.krun) (h2 : n = 2) (m : Int) (hq : Sr.numV (ws.getD 1 ⟨#[]⟩) 50000 = some m) (hm : m < 0) :
    Calls Tryz.prog 44 #[tbV t a, .string s] w fun e w' => e = .returned (.tuple #[.agg #[.int .i64 0, .int .i64 0, .int .u32 0], .int .i64 2]) ∧ Below w.heap.size w w' := by
  have HB0 : Hid (Below w.heap.size w ((w.alloc (.cells (tbA t a) 43)).alloc (.cells #[.int .i64 0, .int .i64 0, .int .u32 0] 62))) := ((Below.refl _ _).alloc (Nat.le_refl _) _).alloc (by simp) _
  have HX0 : Hid (TBx ((w.alloc (.cells (tbA t a) 43)).alloc (.cells #[.int .i64 0, .int .i64 0, .int .u32 0] 62)) w.heap.size t a) := (TBx.new w t a _ rfl).below ((Below.refl _ _).alloc (Nat.le_refl _) _)
  have HK0 : Hid (((w.alloc (.cells (tbA t a) 43)).alloc (.cells #[.int .i64 0, .int .i64 0, .int .u32 0] 62)).heap[w.heap.size + 1]? = some (.cells #[.int .i64 0, .int .i64 0, .int .u32 0] 62 (0, 0))) := new_row (w.alloc (.cells (tbA t a) 43)) #[.int .i64 0, .int .i64 0, .int .u32 0] 62 _ (by simp)
  have hnp : 0 < n := by rw [← hn, ← hws]; exact Sr.texts_pos 32 s
  have hnb : n ≤ 1048577 := by
    rw [← hn, ← hws]
    have h1 := Sp.cut_many 32 s.data.toList
    have h2 : s.data.toList.length = s.size := rfl
    have h3 := hls.2.2.2
    unfold Sp.texts
    rw [List.length_map]
    omega
  have HSZ : Hid (∀ j, (ws.getD j ⟨#[]⟩).size ≤ 1048576) := fun j => by
    by_cases hj : j < ws.length
    · have h1 := Sr.texts_short 32 s (ws.getD j ⟨#[]⟩) (by rw [hws]; exact getD_in ws _ j hj)
      have := hls.2.2.2
      omega
    · rw [List.getD_eq_getElem?_getD, List.getElem?_eq_none (by omega)]
      decide
  have HSL : Hid (Calls Tryz.prog 72 #[.string s] ((w.alloc (.cells (tbA t a) 43)).alloc (.cells #[.int .i64 0, .int .i64 0, .int .u32 0] 62)) fun e w' => ∃ b off cap, e = .returned (.slice (some ⟨b, off, none⟩) n cap) ∧ n ≤ cap ∧ (∀ j, j < n → w'.cell? ⟨b, off + j, none⟩ = some (.string (ws.getD j ⟨#[]⟩))) ∧ Below ((w.alloc (.cells (tbA t a) 43)).alloc (.cells #[.int .i64 0, .int .i64 0, .int .u32 0] 62)).heap.size ((w.alloc (.cells (tbA t a) 43)).alloc (.cells #[.int .i64 0, .int .i64 0, .int .u32 0] 62)) w') := (spec_split s _ hls.2.2.2).mono fun e w' h => by
    obtain ⟨A, cap, h1, h2, h3, h4⟩ := h
    rw [hws] at h1 h2 h3
    rw [hn] at h1 h2
    obtain ⟨b, off, h5, h6, h7⟩ := flds_at h3 0 (by omega)
    subst h5
    exact ⟨b, off, cap, h1, h2, fun j hj => h7 j (by omega), h4⟩
  have HLS : Hid (∀ X, Below w.heap.size w X → PSegL 0 X a.pa a.pn t.ps a.Y) := fun X hX => hls.1.below hX
  have HL : Hid (t.ps.length = a.pn ∧ a.pn ≤ 1048576) := ⟨hls.2.1, hls.2.2.1⟩
  clear hls hws hn
  subst h2
  go_enter Tryz.func44, Tryz.ntmps44
  go_wp2_with fail
  refine Calls.mono HSL.out ?_
  rintro e w1 ⟨b, off, cap, rfl, hcap, hcl, hb1⟩
  have HN1 : Hid ((w1.alloc (.cells #[.int .i64 0, .int .i64 0, .int .u32 0] 62)).heap[w1.heap.size]? = some (.cells #[.int .i64 0, .int .i64 0, .int .u32 0] 62 (0, 0))) := new_row w1 _ _ _ rfl
  have hba : Below w1.heap.size w1 ((w1.alloc (.cells #[.int .i64 0, .int .i64 0, .int .u32 0] 62)).setRow w1.heap.size #[.int .i64 0, .int .i64 0, .int .u32 0]) := below_setRow ((Below.refl _ _).alloc (Nat.le_refl _) _) (Nat.le_refl _) _
  have hbt : Below ((w.alloc (.cells (tbA t a) 43)).alloc (.cells #[.int .i64 0, .int .i64 0, .int .u32 0] 62)).heap.size ((w.alloc (.cells (tbA t a) 43)).alloc (.cells #[.int .i64 0, .int .i64 0, .int .u32 0] 62)) ((w1.alloc (.cells #[.int .i64 0, .int .i64 0, .int .u32 0] 62)).setRow w1.heap.size #[.int .i64 0, .int .i64 0, .int .u32 0]) := hb1.trans (hba.mono hb1.size)
  have HB1 : Hid (Below w.heap.size w ((w1.alloc (.cells #[.int .i64 0, .int .i64 0, .int .u32 0] 62)).setRow w1.heap.size #[.int .i64 0, .int .i64 0, .int .u32 0])) := HB0.out.trans (hbt.mono HB0.out.size)
  have HX1 : Hid (TBx ((w1.alloc (.cells #[.int .i64 0, .int .i64 0, .int .u32 0] 62)).setRow w1.heap.size #[.int .i64 0, .int .i64 0, .int .u32 0]) w.heap.size t a) := HX0.out.below hbt
  have HR2 : Hid (((w1.alloc (.cells #[.int .i64 0, .int .i64 0, .int .u32 0] 62)).setRow w1.heap.size #[.int .i64 0, .int .i64 0, .int .u32 0]).heap[w.heap.size + 1]? = some (.cells #[.int .i64 0, .int .i64 0, .int .u32 0] 62 (0, 0))) := row_below HK0.out hbt
  have HRB : Hid (((w1.alloc (.cells #[.int .i64 0, .int .i64 0, .int .u32 0] 62)).setRow w1.heap.size #[.int .i64 0, .int .i64 0, .int .u32 0]).heap[w1.heap.size]? = some (.cells #[.int .i64 0, .int .i64 0, .int .u32 0] 62 (0, 0))) := setRow_heap _ _ _ _ _ _ HN1.out
  have z0 : ((w1.alloc (.cells #[.int .i64 0, .int .i64 0, .int .u32 0] 62)).setRow w1.heap.size #[.int .i64 0, .int .i64 0, .int .u32 0]).cell? ⟨w1.heap.size, 0, none⟩ = some (.int .i64 0) := row_c HRB.out 0 _ rfl
  have z1 : ((w1.alloc (.cells #[.int .i64 0, .int .i64 0, .int .u32 0] 62)).setRow w1.heap.size #[.int .i64 0, .int .i64 0, .int .u32 0]).cell? ⟨w1.heap.size, 1, none⟩ = some (.int .i64 0) := row_c HRB.out 1 _ rfl
  have z2 : ((w1.alloc (.cells #[.int .i64 0, .int .i64 0, .int .u32 0] 62)).setRow w1.heap.size #[.int .i64 0, .int .i64 0, .int .u32 0]).cell? ⟨w1.heap.size, 2, none⟩ = some (.int .u32 0) := row_c HRB.out 2 _ rfl
  have hv0 : ((w1.alloc (.cells #[.int .i64 0, .int .i64 0, .int .u32 0] 62)).setRow w1.heap.size #[.int .i64 0, .int .i64 0, .int .u32 0]).cell? ⟨b, off, none⟩ = some (.string (ws.getD 0 ⟨#[]⟩)) := by
    have := cell_kept hba (hcl 0 (by omega))
    simpa using this
  have hv1 : ((w1.alloc (.cells #[.int .i64 0, .int .i64 0, .int .u32 0] 62)).setRow w1.heap.size #[.int .i64 0, .int .i64 0, .int .u32 0]).cell? ⟨b, off + 1, none⟩ = some (.string (ws.getD 1 ⟨#[]⟩)) := cell_kept hba (hcl 1 (by omega))
  have hsz := HSZ.out
  clear hb1 hba hbt HB0 HX0 HK0 HSL hcl
  rw [hk0] at hv0
  have trun := eq_run
  have tinp := ne_inp run_inp
  have tres := ne_res run_res
  go_wp2_with (first | (refine wpList_store_row rfl 62 (.tmp 7) (.tmp 17) rfl w1.heap.size #[.int .i64 0, .int .i64 0, .int .u32 0] rfl rfl 62 #[.int .i64 0, .int .i64 0, .int .u32 0] HN1.out (by kernel_rfl) rfl (by simp [Value.oneCell']) ?_) | fail)
  refine Calls.mono (spec_num (ws.getD 1 ⟨#[]⟩) 50000 _ (HSZ.out _)) ?_
  rintro e w5 ⟨rfl, hw5⟩
  subst hw5
  rw [show tell (Dc.ans (Tx.nums (ws.getD 1 ⟨#[]⟩)) 50000) = .returned (.tuple #[.int .i64 m, .bool true]) by rw [show Dc.ans (Tx.nums (ws.getD 1 ⟨#[]⟩)) 50000 = _ from hq]; rfl]
  have HRF : Hid ((((w1.alloc (.cells #[.int .i64 0, .int .i64 0, .int .u32 0] 62)).setRow w1.heap.size #[.int .i64 0, .int .i64 0, .int .u32 0]).setRow (w.heap.size + 1) #[.int .i64 0, .int .i64 0, .int .u32 0]).heap[w.heap.size + 1]? = some (.cells #[.int .i64 0, .int .i64 0, .int .u32 0] 62 (0, 0))) := setRow_heap _ _ _ _ _ _ HR2.out
  have n0 : (((w1.alloc (.cells #[.int .i64 0, .int .i64 0, .int .u32 0] 62)).setRow w1.heap.size #[.int .i64 0, .int .i64 0, .int .u32 0]).setRow (w.heap.size + 1) #[.int .i64 0, .int .i64 0, .int .u32 0]).cell? ⟨w.heap.size + 1, 0, none⟩ = some (.int .i64 0) := row_c HRF.out 0 _ rfl
  have n1 : (((w1.alloc (.cells #[.int .i64 0, .int .i64 0, .int .u32 0] 62)).setRow w1.heap.size #[.int .i64 0, .int .i64 0, .int .u32 0]).setRow (w.heap.size + 1) #[.int .i64 0, .int .i64 0, .int .u32 0]).cell? ⟨w.heap.size + 1, 1, none⟩ = some (.int .i64 0) := row_c HRF.out 1 _ rfl
  have n2 : (((w1.alloc (.cells #[.int .i64 0, .int .i64 0, .int .u32 0] 62)).setRow w1.heap.size #[.int .i64 0, .int .i64 0, .int .u32 0]).setRow (w.heap.size + 1) #[.int .i64 0, .int .i64 0, .int .u32 0]).cell? ⟨w.heap.size + 1, 2, none⟩ = some (.int .u32 0) := row_c HRF.out 2 _ rfl
  have HBF : Hid (Below w.heap.size w (((w1.alloc (.cells #[.int .i64 0, .int .i64 0, .int .u32 0] 62)).setRow w1.heap.size #[.int .i64 0, .int .i64 0, .int .u32 0]).setRow (w.heap.size + 1) #[.int .i64 0, .int .i64 0, .int .u32 0])) := below_setRow HB1.out (by omega) _
  clear HB1 HX1
  go_wp2_with (first | (refine wpList_store_row rfl 62 (.tmp 4) (.tmp 41) rfl (w.heap.size + 1) #[.int .i64 0, .int .i64 0, .int .u32 0] rfl rfl 62 #[.int .i64 0, .int .i64 0, .int .u32 0] HR2.out (by kernel_rfl) rfl (by simp [Value.oneCell']) ?_) | fail)
  exact bodyPost_ret (v := .tuple #[.agg #[.int .i64 0, .int .i64 0, .int .u32 0], .int .i64 2]) (by simp [results, Tryz.results44, go_sem, n0, n1, n2]) rfl ⟨rfl, HBF.out⟩
set_option maxRecDepth 40000 in
set_option maxHeartbeats 8000000 in
theorem sl_run2 (t : Tb) (a : Ad) (s : ByteArray) (n : Nat) (ws : List ByteArray) (w : World) (hls : LS w t a s) (hws : Sp.texts 32 s = ws) (hn : ws.length = n) (hk0 : ws.getD 0 ⟨#[]⟩ = Sr.krun) (h2 : n = 2) (m : Int) (hq : Sr.numV (ws.getD 1 ⟨#[]⟩) 50000 = some m) (hm : ¬ m < 0) :
    Calls Tryz.prog 44 #[tbV t a, .string s] w fun e w' => e = .returned (.tuple #[.agg #[.int .i64 0, .int .i64 m, .int .u32 0], .int .i64 0]) ∧ Below w.heap.size w w' := by
  have HB0 : Hid (Below w.heap.size w ((w.alloc (.cells (tbA t a) 43)).alloc (.cells #[.int .i64 0, .int .i64 0, .int .u32 0] 62))) := ((Below.refl _ _).alloc (Nat.le_refl _) _).alloc (by simp) _
  have HX0 : Hid (TBx ((w.alloc (.cells (tbA t a) 43)).alloc (.cells #[.int .i64 0, .int .i64 0, .int .u32 0] 62)) w.heap.size t a) := (TBx.new w t a _ rfl).below ((Below.refl _ _).alloc (Nat.le_refl _) _)
  have HK0 : Hid (((w.alloc (.cells (tbA t a) 43)).alloc (.cells #[.int .i64 0, .int .i64 0, .int .u32 0] 62)).heap[w.heap.size + 1]? = some (.cells #[.int .i64 0, .int .i64 0, .int .u32 0] 62 (0, 0))) := new_row (w.alloc (.cells (tbA t a) 43)) #[.int .i64 0, .int .i64 0, .int .u32 0] 62 _ (by simp)
  have hnp : 0 < n := by rw [← hn, ← hws]; exact Sr.texts_pos 32 s
  have hnb : n ≤ 1048577 := by
    rw [← hn, ← hws]
    have h1 := Sp.cut_many 32 s.data.toList
    have h2 : s.data.toList.length = s.size := rfl
    have h3 := hls.2.2.2
    unfold Sp.texts
    rw [List.length_map]
    omega
  have HSZ : Hid (∀ j, (ws.getD j ⟨#[]⟩).size ≤ 1048576) := fun j => by
    by_cases hj : j < ws.length
    · have h1 := Sr.texts_short 32 s (ws.getD j ⟨#[]⟩) (by rw [hws]; exact getD_in ws _ j hj)
      have := hls.2.2.2
      omega
    · rw [List.getD_eq_getElem?_getD, List.getElem?_eq_none (by omega)]
      decide
  have HSL : Hid (Calls Tryz.prog 72 #[.string s] ((w.alloc (.cells (tbA t a) 43)).alloc (.cells #[.int .i64 0, .int .i64 0, .int .u32 0] 62)) fun e w' => ∃ b off cap, e = .returned (.slice (some ⟨b, off, none⟩) n cap) ∧ n ≤ cap ∧ (∀ j, j < n → w'.cell? ⟨b, off + j, none⟩ = some (.string (ws.getD j ⟨#[]⟩))) ∧ Below ((w.alloc (.cells (tbA t a) 43)).alloc (.cells #[.int .i64 0, .int .i64 0, .int .u32 0] 62)).heap.size ((w.alloc (.cells (tbA t a) 43)).alloc (.cells #[.int .i64 0, .int .i64 0, .int .u32 0] 62)) w') := (spec_split s _ hls.2.2.2).mono fun e w' h => by
    obtain ⟨A, cap, h1, h2, h3, h4⟩ := h
    rw [hws] at h1 h2 h3
    rw [hn] at h1 h2
    obtain ⟨b, off, h5, h6, h7⟩ := flds_at h3 0 (by omega)
    subst h5
    exact ⟨b, off, cap, h1, h2, fun j hj => h7 j (by omega), h4⟩
  have HLS : Hid (∀ X, Below w.heap.size w X → PSegL 0 X a.pa a.pn t.ps a.Y) := fun X hX => hls.1.below hX
  have HL : Hid (t.ps.length = a.pn ∧ a.pn ≤ 1048576) := ⟨hls.2.1, hls.2.2.1⟩
  clear hls hws hn
  subst h2
  go_enter Tryz.func44, Tryz.ntmps44
  go_wp2_with fail
  refine Calls.mono HSL.out ?_
  rintro e w1 ⟨b, off, cap, rfl, hcap, hcl, hb1⟩
  have HN1 : Hid ((w1.alloc (.cells #[.int .i64 0, .int .i64 0, .int .u32 0] 62)).heap[w1.heap.size]? = some (.cells #[.int .i64 0, .int .i64 0, .int .u32 0] 62 (0, 0))) := new_row w1 _ _ _ rfl
  have hba : Below w1.heap.size w1 ((w1.alloc (.cells #[.int .i64 0, .int .i64 0, .int .u32 0] 62)).setRow w1.heap.size #[.int .i64 0, .int .i64 0, .int .u32 0]) := below_setRow ((Below.refl _ _).alloc (Nat.le_refl _) _) (Nat.le_refl _) _
  have hbt : Below ((w.alloc (.cells (tbA t a) 43)).alloc (.cells #[.int .i64 0, .int .i64 0, .int .u32 0] 62)).heap.size ((w.alloc (.cells (tbA t a) 43)).alloc (.cells #[.int .i64 0, .int .i64 0, .int .u32 0] 62)) ((w1.alloc (.cells #[.int .i64 0, .int .i64 0, .int .u32 0] 62)).setRow w1.heap.size #[.int .i64 0, .int .i64 0, .int .u32 0]) := hb1.trans (hba.mono hb1.size)
  have HB1 : Hid (Below w.heap.size w ((w1.alloc (.cells #[.int .i64 0, .int .i64 0, .int .u32 0] 62)).setRow w1.heap.size #[.int .i64 0, .int .i64 0, .int .u32 0])) := HB0.out.trans (hbt.mono HB0.out.size)
  have HX1 : Hid (TBx ((w1.alloc (.cells #[.int .i64 0, .int .i64 0, .int .u32 0] 62)).setRow w1.heap.size #[.int .i64 0, .int .i64 0, .int .u32 0]) w.heap.size t a) := HX0.out.below hbt
  have HR2 : Hid (((w1.alloc (.cells #[.int .i64 0, .int .i64 0, .int .u32 0] 62)).setRow w1.heap.size #[.int .i64 0, .int .i64 0, .int .u32 0]).heap[w.heap.size + 1]? = some (.cells #[.int .i64 0, .int .i64 0, .int .u32 0] 62 (0, 0))) := row_below HK0.out hbt
  have HRB : Hid (((w1.alloc (.cells #[.int .i64 0, .int .i64 0, .int .u32 0] 62)).setRow w1.heap.size #[.int .i64 0, .int .i64 0, .int .u32 0]).heap[w1.heap.size]? = some (.cells #[.int .i64 0, .int .i64 0, .int .u32 0] 62 (0, 0))) := setRow_heap _ _ _ _ _ _ HN1.out
  have z0 : ((w1.alloc (.cells #[.int .i64 0, .int .i64 0, .int .u32 0] 62)).setRow w1.heap.size #[.int .i64 0, .int .i64 0, .int .u32 0]).cell? ⟨w1.heap.size, 0, none⟩ = some (.int .i64 0) := row_c HRB.out 0 _ rfl
  have z1 : ((w1.alloc (.cells #[.int .i64 0, .int .i64 0, .int .u32 0] 62)).setRow w1.heap.size #[.int .i64 0, .int .i64 0, .int .u32 0]).cell? ⟨w1.heap.size, 1, none⟩ = some (.int .i64 0) := row_c HRB.out 1 _ rfl
  have z2 : ((w1.alloc (.cells #[.int .i64 0, .int .i64 0, .int .u32 0] 62)).setRow w1.heap.size #[.int .i64 0, .int .i64 0, .int .u32 0]).cell? ⟨w1.heap.size, 2, none⟩ = some (.int .u32 0) := row_c HRB.out 2 _ rfl
  have hv0 : ((w1.alloc (.cells #[.int .i64 0, .int .i64 0, .int .u32 0] 62)).setRow w1.heap.size #[.int .i64 0, .int .i64 0, .int .u32 0]).cell? ⟨b, off, none⟩ = some (.string (ws.getD 0 ⟨#[]⟩)) := by
    have := cell_kept hba (hcl 0 (by omega))
    simpa using this
  have hv1 : ((w1.alloc (.cells #[.int .i64 0, .int .i64 0, .int .u32 0] 62)).setRow w1.heap.size #[.int .i64 0, .int .i64 0, .int .u32 0]).cell? ⟨b, off + 1, none⟩ = some (.string (ws.getD 1 ⟨#[]⟩)) := cell_kept hba (hcl 1 (by omega))
  have hsz := HSZ.out
  clear hb1 hba hbt HB0 HX0 HK0 HSL hcl
  rw [hk0] at hv0
  have trun := eq_run
  have tinp := ne_inp run_inp
  have tres := ne_res run_res
  go_wp2_with (first | (refine wpList_store_row rfl 62 (.tmp 7) (.tmp 17) rfl w1.heap.size #[.int .i64 0, .int .i64 0, .int .u32 0] rfl rfl 62 #[.int .i64 0, .int .i64 0, .int .u32 0] HN1.out (by kernel_rfl) rfl (by simp [Value.oneCell']) ?_) | fail)
  refine Calls.mono (spec_num (ws.getD 1 ⟨#[]⟩) 50000 _ (HSZ.out _)) ?_
  rintro e w5 ⟨rfl, hw5⟩
  subst hw5
  rw [show tell (Dc.ans (Tx.nums (ws.getD 1 ⟨#[]⟩)) 50000) = .returned (.tuple #[.int .i64 m, .bool true]) by rw [show Dc.ans (Tx.nums (ws.getD 1 ⟨#[]⟩)) 50000 = _ from hq]; rfl]
  have HRF : Hid ((((w1.alloc (.cells #[.int .i64 0, .int .i64 0, .int .u32 0] 62)).setRow w1.heap.size #[.int .i64 0, .int .i64 0, .int .u32 0]).setRow (w.heap.size + 1) #[.int .i64 0, .int .i64 m, .int .u32 0]).heap[w.heap.size + 1]? = some (.cells #[.int .i64 0, .int .i64 m, .int .u32 0] 62 (0, 0))) := setRow_heap _ _ _ _ _ _ HR2.out
  have n0 : (((w1.alloc (.cells #[.int .i64 0, .int .i64 0, .int .u32 0] 62)).setRow w1.heap.size #[.int .i64 0, .int .i64 0, .int .u32 0]).setRow (w.heap.size + 1) #[.int .i64 0, .int .i64 m, .int .u32 0]).cell? ⟨w.heap.size + 1, 0, none⟩ = some (.int .i64 0) := row_c HRF.out 0 _ rfl
  have n1 : (((w1.alloc (.cells #[.int .i64 0, .int .i64 0, .int .u32 0] 62)).setRow w1.heap.size #[.int .i64 0, .int .i64 0, .int .u32 0]).setRow (w.heap.size + 1) #[.int .i64 0, .int .i64 m, .int .u32 0]).cell? ⟨w.heap.size + 1, 1, none⟩ = some (.int .i64 m) := row_c HRF.out 1 _ rfl
  have n2 : (((w1.alloc (.cells #[.int .i64 0, .int .i64 0, .int .u32 0] 62)).setRow w1.heap.size #[.int .i64 0, .int .i64 0, .int .u32 0]).setRow (w.heap.size + 1) #[.int .i64 0, .int .i64 m, .int .u32 0]).cell? ⟨w.heap.size + 1, 2, none⟩ = some (.int .u32 0) := row_c HRF.out 2 _ rfl
  have HBF : Hid (Below w.heap.size w (((w1.alloc (.cells #[.int .i64 0, .int .i64 0, .int .u32 0] 62)).setRow w1.heap.size #[.int .i64 0, .int .i64 0, .int .u32 0]).setRow (w.heap.size + 1) #[.int .i64 0, .int .i64 m, .int .u32 0])) := below_setRow HB1.out (by omega) _
  clear HB1 HX1
  go_wp2_with (first | (refine wpList_store_row rfl 62 (.tmp 4) (.tmp 43) rfl (w.heap.size + 1) #[.int .i64 0, .int .i64 m, .int .u32 0] rfl rfl 62 #[.int .i64 0, .int .i64 0, .int .u32 0] HR2.out (by kernel_rfl) rfl (by simp [Value.oneCell']) ?_) | fail)
  exact bodyPost_ret (v := .tuple #[.agg #[.int .i64 0, .int .i64 m, .int .u32 0], .int .i64 0]) (by simp [results, Tryz.results44, go_sem, n0, n1, n2]) rfl ⟨rfl, HBF.out⟩
set_option maxRecDepth 40000 in
set_option maxHeartbeats 8000000 in
theorem sl_inp0 (t : Tb) (a : Ad) (s : ByteArray) (n : Nat) (ws : List ByteArray) (w : World) (hls : LS w t a s) (hws : Sp.texts 32 s = ws) (hn : ws.length = n) (hk0 : ws.getD 0 ⟨#[]⟩ = Sr.kinp) (h2 : n = 3) (hq : Sr.numV (ws.getD 1 ⟨#[]⟩) 7 = none) (q2 : Option Int) (hr : Sr.numV (ws.getD 2 ⟨#[]⟩) 4294967295 = q2) :
    Calls Tryz.prog 44 #[tbV t a, .string s] w fun e w' => e = .returned (.tuple #[.agg #[.int .i64 0, .int .i64 0, .int .u32 0], .int .i64 2]) ∧ Below w.heap.size w w' := by
  have HB0 : Hid (Below w.heap.size w ((w.alloc (.cells (tbA t a) 43)).alloc (.cells #[.int .i64 0, .int .i64 0, .int .u32 0] 62))) := ((Below.refl _ _).alloc (Nat.le_refl _) _).alloc (by simp) _
  have HX0 : Hid (TBx ((w.alloc (.cells (tbA t a) 43)).alloc (.cells #[.int .i64 0, .int .i64 0, .int .u32 0] 62)) w.heap.size t a) := (TBx.new w t a _ rfl).below ((Below.refl _ _).alloc (Nat.le_refl _) _)
  have HK0 : Hid (((w.alloc (.cells (tbA t a) 43)).alloc (.cells #[.int .i64 0, .int .i64 0, .int .u32 0] 62)).heap[w.heap.size + 1]? = some (.cells #[.int .i64 0, .int .i64 0, .int .u32 0] 62 (0, 0))) := new_row (w.alloc (.cells (tbA t a) 43)) #[.int .i64 0, .int .i64 0, .int .u32 0] 62 _ (by simp)
  have hnp : 0 < n := by rw [← hn, ← hws]; exact Sr.texts_pos 32 s
  have hnb : n ≤ 1048577 := by
    rw [← hn, ← hws]
    have h1 := Sp.cut_many 32 s.data.toList
    have h2 : s.data.toList.length = s.size := rfl
    have h3 := hls.2.2.2
    unfold Sp.texts
    rw [List.length_map]
    omega
  have HSZ : Hid (∀ j, (ws.getD j ⟨#[]⟩).size ≤ 1048576) := fun j => by
    by_cases hj : j < ws.length
    · have h1 := Sr.texts_short 32 s (ws.getD j ⟨#[]⟩) (by rw [hws]; exact getD_in ws _ j hj)
      have := hls.2.2.2
      omega
    · rw [List.getD_eq_getElem?_getD, List.getElem?_eq_none (by omega)]
      decide
  have HSL : Hid (Calls Tryz.prog 72 #[.string s] ((w.alloc (.cells (tbA t a) 43)).alloc (.cells #[.int .i64 0, .int .i64 0, .int .u32 0] 62)) fun e w' => ∃ b off cap, e = .returned (.slice (some ⟨b, off, none⟩) n cap) ∧ n ≤ cap ∧ (∀ j, j < n → w'.cell? ⟨b, off + j, none⟩ = some (.string (ws.getD j ⟨#[]⟩))) ∧ Below ((w.alloc (.cells (tbA t a) 43)).alloc (.cells #[.int .i64 0, .int .i64 0, .int .u32 0] 62)).heap.size ((w.alloc (.cells (tbA t a) 43)).alloc (.cells #[.int .i64 0, .int .i64 0, .int .u32 0] 62)) w') := (spec_split s _ hls.2.2.2).mono fun e w' h => by
    obtain ⟨A, cap, h1, h2, h3, h4⟩ := h
    rw [hws] at h1 h2 h3
    rw [hn] at h1 h2
    obtain ⟨b, off, h5, h6, h7⟩ := flds_at h3 0 (by omega)
    subst h5
    exact ⟨b, off, cap, h1, h2, fun j hj => h7 j (by omega), h4⟩
  have HLS : Hid (∀ X, Below w.heap.size w X → PSegL 0 X a.pa a.pn t.ps a.Y) := fun X hX => hls.1.below hX
  have HL : Hid (t.ps.length = a.pn ∧ a.pn ≤ 1048576) := ⟨hls.2.1, hls.2.2.1⟩
  clear hls hws hn
  subst h2
  go_enter Tryz.func44, Tryz.ntmps44
  go_wp2_with fail
  refine Calls.mono HSL.out ?_
  rintro e w1 ⟨b, off, cap, rfl, hcap, hcl, hb1⟩
  have HN1 : Hid ((w1.alloc (.cells #[.int .i64 0, .int .i64 0, .int .u32 0] 62)).heap[w1.heap.size]? = some (.cells #[.int .i64 0, .int .i64 0, .int .u32 0] 62 (0, 0))) := new_row w1 _ _ _ rfl
  have hba : Below w1.heap.size w1 ((w1.alloc (.cells #[.int .i64 0, .int .i64 0, .int .u32 0] 62)).setRow w1.heap.size #[.int .i64 0, .int .i64 0, .int .u32 0]) := below_setRow ((Below.refl _ _).alloc (Nat.le_refl _) _) (Nat.le_refl _) _
  have hbt : Below ((w.alloc (.cells (tbA t a) 43)).alloc (.cells #[.int .i64 0, .int .i64 0, .int .u32 0] 62)).heap.size ((w.alloc (.cells (tbA t a) 43)).alloc (.cells #[.int .i64 0, .int .i64 0, .int .u32 0] 62)) ((w1.alloc (.cells #[.int .i64 0, .int .i64 0, .int .u32 0] 62)).setRow w1.heap.size #[.int .i64 0, .int .i64 0, .int .u32 0]) := hb1.trans (hba.mono hb1.size)
  have HB1 : Hid (Below w.heap.size w ((w1.alloc (.cells #[.int .i64 0, .int .i64 0, .int .u32 0] 62)).setRow w1.heap.size #[.int .i64 0, .int .i64 0, .int .u32 0])) := HB0.out.trans (hbt.mono HB0.out.size)
  have HX1 : Hid (TBx ((w1.alloc (.cells #[.int .i64 0, .int .i64 0, .int .u32 0] 62)).setRow w1.heap.size #[.int .i64 0, .int .i64 0, .int .u32 0]) w.heap.size t a) := HX0.out.below hbt
  have HR2 : Hid (((w1.alloc (.cells #[.int .i64 0, .int .i64 0, .int .u32 0] 62)).setRow w1.heap.size #[.int .i64 0, .int .i64 0, .int .u32 0]).heap[w.heap.size + 1]? = some (.cells #[.int .i64 0, .int .i64 0, .int .u32 0] 62 (0, 0))) := row_below HK0.out hbt
  have HRB : Hid (((w1.alloc (.cells #[.int .i64 0, .int .i64 0, .int .u32 0] 62)).setRow w1.heap.size #[.int .i64 0, .int .i64 0, .int .u32 0]).heap[w1.heap.size]? = some (.cells #[.int .i64 0, .int .i64 0, .int .u32 0] 62 (0, 0))) := setRow_heap _ _ _ _ _ _ HN1.out
  have z0 : ((w1.alloc (.cells #[.int .i64 0, .int .i64 0, .int .u32 0] 62)).setRow w1.heap.size #[.int .i64 0, .int .i64 0, .int .u32 0]).cell? ⟨w1.heap.size, 0, none⟩ = some (.int .i64 0) := row_c HRB.out 0 _ rfl
  have z1 : ((w1.alloc (.cells #[.int .i64 0, .int .i64 0, .int .u32 0] 62)).setRow w1.heap.size #[.int .i64 0, .int .i64 0, .int .u32 0]).cell? ⟨w1.heap.size, 1, none⟩ = some (.int .i64 0) := row_c HRB.out 1 _ rfl
  have z2 : ((w1.alloc (.cells #[.int .i64 0, .int .i64 0, .int .u32 0] 62)).setRow w1.heap.size #[.int .i64 0, .int .i64 0, .int .u32 0]).cell? ⟨w1.heap.size, 2, none⟩ = some (.int .u32 0) := row_c HRB.out 2 _ rfl
  have hv0 : ((w1.alloc (.cells #[.int .i64 0, .int .i64 0, .int .u32 0] 62)).setRow w1.heap.size #[.int .i64 0, .int .i64 0, .int .u32 0]).cell? ⟨b, off, none⟩ = some (.string (ws.getD 0 ⟨#[]⟩)) := by
    have := cell_kept hba (hcl 0 (by omega))
    simpa using this
  have hv1 : ((w1.alloc (.cells #[.int .i64 0, .int .i64 0, .int .u32 0] 62)).setRow w1.heap.size #[.int .i64 0, .int .i64 0, .int .u32 0]).cell? ⟨b, off + 1, none⟩ = some (.string (ws.getD 1 ⟨#[]⟩)) := cell_kept hba (hcl 1 (by omega))
  have hv2 : ((w1.alloc (.cells #[.int .i64 0, .int .i64 0, .int .u32 0] 62)).setRow w1.heap.size #[.int .i64 0, .int .i64 0, .int .u32 0]).cell? ⟨b, off + 2, none⟩ = some (.string (ws.getD 2 ⟨#[]⟩)) := cell_kept hba (hcl 2 (by omega))
  have hsz := HSZ.out
  clear hb1 hba hbt HB0 HX0 HK0 HSL hcl
  rw [hk0] at hv0
  have trun := ne_run inp_run
  have tinp := eq_inp
  have tres := ne_res inp_res
  go_wp2_with (first | (refine wpList_store_row rfl 62 (.tmp 7) (.tmp 17) rfl w1.heap.size #[.int .i64 0, .int .i64 0, .int .u32 0] rfl rfl 62 #[.int .i64 0, .int .i64 0, .int .u32 0] HN1.out (by kernel_rfl) rfl (by simp [Value.oneCell']) ?_) | fail)
  refine Calls.mono (spec_num (ws.getD 1 ⟨#[]⟩) 7 _ (HSZ.out _)) ?_
  rintro e w5 ⟨rfl, hw5⟩
  subst hw5
  rw [show tell (Dc.ans (Tx.nums (ws.getD 1 ⟨#[]⟩)) 7) = .returned (.tuple #[.int .i64 0, .bool false]) by rw [show Dc.ans (Tx.nums (ws.getD 1 ⟨#[]⟩)) 7 = _ from hq]; rfl]
  go_wp2_with fail
  refine Calls.mono (spec_num (ws.getD 2 ⟨#[]⟩) 4294967295 _ (HSZ.out _)) ?_
  rintro e w6 ⟨rfl, hw6⟩
  subst hw6
  rw [show Dc.ans (Tx.nums (ws.getD 2 ⟨#[]⟩)) 4294967295 = q2 from hr]
  obtain ⟨i2, o2, ht2⟩ : ∃ i o, tell q2 = .returned (.tuple #[.int .i64 i, .bool o]) := ⟨_, _, rfl⟩
  rw [ht2]
  have HRF : Hid ((((w1.alloc (.cells #[.int .i64 0, .int .i64 0, .int .u32 0] 62)).setRow w1.heap.size #[.int .i64 0, .int .i64 0, .int .u32 0]).setRow (w.heap.size + 1) #[.int .i64 0, .int .i64 0, .int .u32 0]).heap[w.heap.size + 1]? = some (.cells #[.int .i64 0, .int .i64 0, .int .u32 0] 62 (0, 0))) := setRow_heap _ _ _ _ _ _ HR2.out
  have n0 : (((w1.alloc (.cells #[.int .i64 0, .int .i64 0, .int .u32 0] 62)).setRow w1.heap.size #[.int .i64 0, .int .i64 0, .int .u32 0]).setRow (w.heap.size + 1) #[.int .i64 0, .int .i64 0, .int .u32 0]).cell? ⟨w.heap.size + 1, 0, none⟩ = some (.int .i64 0) := row_c HRF.out 0 _ rfl
  have n1 : (((w1.alloc (.cells #[.int .i64 0, .int .i64 0, .int .u32 0] 62)).setRow w1.heap.size #[.int .i64 0, .int .i64 0, .int .u32 0]).setRow (w.heap.size + 1) #[.int .i64 0, .int .i64 0, .int .u32 0]).cell? ⟨w.heap.size + 1, 1, none⟩ = some (.int .i64 0) := row_c HRF.out 1 _ rfl
  have n2 : (((w1.alloc (.cells #[.int .i64 0, .int .i64 0, .int .u32 0] 62)).setRow w1.heap.size #[.int .i64 0, .int .i64 0, .int .u32 0]).setRow (w.heap.size + 1) #[.int .i64 0, .int .i64 0, .int .u32 0]).cell? ⟨w.heap.size + 1, 2, none⟩ = some (.int .u32 0) := row_c HRF.out 2 _ rfl
  have HBF : Hid (Below w.heap.size w (((w1.alloc (.cells #[.int .i64 0, .int .i64 0, .int .u32 0] 62)).setRow w1.heap.size #[.int .i64 0, .int .i64 0, .int .u32 0]).setRow (w.heap.size + 1) #[.int .i64 0, .int .i64 0, .int .u32 0])) := below_setRow HB1.out (by omega) _
  clear HB1 HX1
  go_wp2_with (first | (refine wpList_store_row rfl 62 (.tmp 4) (.tmp 82) rfl (w.heap.size + 1) #[.int .i64 0, .int .i64 0, .int .u32 0] rfl rfl 62 #[.int .i64 0, .int .i64 0, .int .u32 0] HR2.out (by kernel_rfl) rfl (by simp [Value.oneCell']) ?_) | fail)
  exact bodyPost_ret (v := .tuple #[.agg #[.int .i64 0, .int .i64 0, .int .u32 0], .int .i64 2]) (by simp [results, Tryz.results44, go_sem, n0, n1, n2]) rfl ⟨rfl, HBF.out⟩
set_option maxRecDepth 40000 in
set_option maxHeartbeats 8000000 in
theorem sl_inp1 (t : Tb) (a : Ad) (s : ByteArray) (n : Nat) (ws : List ByteArray) (w : World) (hls : LS w t a s) (hws : Sp.texts 32 s = ws) (hn : ws.length = n) (hk0 : ws.getD 0 ⟨#[]⟩ = Sr.kinp) (h2 : n = 3) (d : Int) (hq : Sr.numV (ws.getD 1 ⟨#[]⟩) 7 = some d) (hr : Sr.numV (ws.getD 2 ⟨#[]⟩) 4294967295 = none) :
    Calls Tryz.prog 44 #[tbV t a, .string s] w fun e w' => e = .returned (.tuple #[.agg #[.int .i64 0, .int .i64 0, .int .u32 0], .int .i64 2]) ∧ Below w.heap.size w w' := by
  have HB0 : Hid (Below w.heap.size w ((w.alloc (.cells (tbA t a) 43)).alloc (.cells #[.int .i64 0, .int .i64 0, .int .u32 0] 62))) := ((Below.refl _ _).alloc (Nat.le_refl _) _).alloc (by simp) _
  have HX0 : Hid (TBx ((w.alloc (.cells (tbA t a) 43)).alloc (.cells #[.int .i64 0, .int .i64 0, .int .u32 0] 62)) w.heap.size t a) := (TBx.new w t a _ rfl).below ((Below.refl _ _).alloc (Nat.le_refl _) _)
  have HK0 : Hid (((w.alloc (.cells (tbA t a) 43)).alloc (.cells #[.int .i64 0, .int .i64 0, .int .u32 0] 62)).heap[w.heap.size + 1]? = some (.cells #[.int .i64 0, .int .i64 0, .int .u32 0] 62 (0, 0))) := new_row (w.alloc (.cells (tbA t a) 43)) #[.int .i64 0, .int .i64 0, .int .u32 0] 62 _ (by simp)
  have hnp : 0 < n := by rw [← hn, ← hws]; exact Sr.texts_pos 32 s
  have hnb : n ≤ 1048577 := by
    rw [← hn, ← hws]
    have h1 := Sp.cut_many 32 s.data.toList
    have h2 : s.data.toList.length = s.size := rfl
    have h3 := hls.2.2.2
    unfold Sp.texts
    rw [List.length_map]
    omega
  have HSZ : Hid (∀ j, (ws.getD j ⟨#[]⟩).size ≤ 1048576) := fun j => by
    by_cases hj : j < ws.length
    · have h1 := Sr.texts_short 32 s (ws.getD j ⟨#[]⟩) (by rw [hws]; exact getD_in ws _ j hj)
      have := hls.2.2.2
      omega
    · rw [List.getD_eq_getElem?_getD, List.getElem?_eq_none (by omega)]
      decide
  have HSL : Hid (Calls Tryz.prog 72 #[.string s] ((w.alloc (.cells (tbA t a) 43)).alloc (.cells #[.int .i64 0, .int .i64 0, .int .u32 0] 62)) fun e w' => ∃ b off cap, e = .returned (.slice (some ⟨b, off, none⟩) n cap) ∧ n ≤ cap ∧ (∀ j, j < n → w'.cell? ⟨b, off + j, none⟩ = some (.string (ws.getD j ⟨#[]⟩))) ∧ Below ((w.alloc (.cells (tbA t a) 43)).alloc (.cells #[.int .i64 0, .int .i64 0, .int .u32 0] 62)).heap.size ((w.alloc (.cells (tbA t a) 43)).alloc (.cells #[.int .i64 0, .int .i64 0, .int .u32 0] 62)) w') := (spec_split s _ hls.2.2.2).mono fun e w' h => by
    obtain ⟨A, cap, h1, h2, h3, h4⟩ := h
    rw [hws] at h1 h2 h3
    rw [hn] at h1 h2
    obtain ⟨b, off, h5, h6, h7⟩ := flds_at h3 0 (by omega)
    subst h5
    exact ⟨b, off, cap, h1, h2, fun j hj => h7 j (by omega), h4⟩
  have HLS : Hid (∀ X, Below w.heap.size w X → PSegL 0 X a.pa a.pn t.ps a.Y) := fun X hX => hls.1.below hX
  have HL : Hid (t.ps.length = a.pn ∧ a.pn ≤ 1048576) := ⟨hls.2.1, hls.2.2.1⟩
  clear hls hws hn
  subst h2
  go_enter Tryz.func44, Tryz.ntmps44
  go_wp2_with fail
  refine Calls.mono HSL.out ?_
  rintro e w1 ⟨b, off, cap, rfl, hcap, hcl, hb1⟩
  have HN1 : Hid ((w1.alloc (.cells #[.int .i64 0, .int .i64 0, .int .u32 0] 62)).heap[w1.heap.size]? = some (.cells #[.int .i64 0, .int .i64 0, .int .u32 0] 62 (0, 0))) := new_row w1 _ _ _ rfl
  have hba : Below w1.heap.size w1 ((w1.alloc (.cells #[.int .i64 0, .int .i64 0, .int .u32 0] 62)).setRow w1.heap.size #[.int .i64 0, .int .i64 0, .int .u32 0]) := below_setRow ((Below.refl _ _).alloc (Nat.le_refl _) _) (Nat.le_refl _) _
  have hbt : Below ((w.alloc (.cells (tbA t a) 43)).alloc (.cells #[.int .i64 0, .int .i64 0, .int .u32 0] 62)).heap.size ((w.alloc (.cells (tbA t a) 43)).alloc (.cells #[.int .i64 0, .int .i64 0, .int .u32 0] 62)) ((w1.alloc (.cells #[.int .i64 0, .int .i64 0, .int .u32 0] 62)).setRow w1.heap.size #[.int .i64 0, .int .i64 0, .int .u32 0]) := hb1.trans (hba.mono hb1.size)
  have HB1 : Hid (Below w.heap.size w ((w1.alloc (.cells #[.int .i64 0, .int .i64 0, .int .u32 0] 62)).setRow w1.heap.size #[.int .i64 0, .int .i64 0, .int .u32 0])) := HB0.out.trans (hbt.mono HB0.out.size)
  have HX1 : Hid (TBx ((w1.alloc (.cells #[.int .i64 0, .int .i64 0, .int .u32 0] 62)).setRow w1.heap.size #[.int .i64 0, .int .i64 0, .int .u32 0]) w.heap.size t a) := HX0.out.below hbt
  have HR2 : Hid (((w1.alloc (.cells #[.int .i64 0, .int .i64 0, .int .u32 0] 62)).setRow w1.heap.size #[.int .i64 0, .int .i64 0, .int .u32 0]).heap[w.heap.size + 1]? = some (.cells #[.int .i64 0, .int .i64 0, .int .u32 0] 62 (0, 0))) := row_below HK0.out hbt
  have HRB : Hid (((w1.alloc (.cells #[.int .i64 0, .int .i64 0, .int .u32 0] 62)).setRow w1.heap.size #[.int .i64 0, .int .i64 0, .int .u32 0]).heap[w1.heap.size]? = some (.cells #[.int .i64 0, .int .i64 0, .int .u32 0] 62 (0, 0))) := setRow_heap _ _ _ _ _ _ HN1.out
  have z0 : ((w1.alloc (.cells #[.int .i64 0, .int .i64 0, .int .u32 0] 62)).setRow w1.heap.size #[.int .i64 0, .int .i64 0, .int .u32 0]).cell? ⟨w1.heap.size, 0, none⟩ = some (.int .i64 0) := row_c HRB.out 0 _ rfl
  have z1 : ((w1.alloc (.cells #[.int .i64 0, .int .i64 0, .int .u32 0] 62)).setRow w1.heap.size #[.int .i64 0, .int .i64 0, .int .u32 0]).cell? ⟨w1.heap.size, 1, none⟩ = some (.int .i64 0) := row_c HRB.out 1 _ rfl
  have z2 : ((w1.alloc (.cells #[.int .i64 0, .int .i64 0, .int .u32 0] 62)).setRow w1.heap.size #[.int .i64 0, .int .i64 0, .int .u32 0]).cell? ⟨w1.heap.size, 2, none⟩ = some (.int .u32 0) := row_c HRB.out 2 _ rfl
  have hv0 : ((w1.alloc (.cells #[.int .i64 0, .int .i64 0, .int .u32 0] 62)).setRow w1.heap.size #[.int .i64 0, .int .i64 0, .int .u32 0]).cell? ⟨b, off, none⟩ = some (.string (ws.getD 0 ⟨#[]⟩)) := by
    have := cell_kept hba (hcl 0 (by omega))
    simpa using this
  have hv1 : ((w1.alloc (.cells #[.int .i64 0, .int .i64 0, .int .u32 0] 62)).setRow w1.heap.size #[.int .i64 0, .int .i64 0, .int .u32 0]).cell? ⟨b, off + 1, none⟩ = some (.string (ws.getD 1 ⟨#[]⟩)) := cell_kept hba (hcl 1 (by omega))
  have hv2 : ((w1.alloc (.cells #[.int .i64 0, .int .i64 0, .int .u32 0] 62)).setRow w1.heap.size #[.int .i64 0, .int .i64 0, .int .u32 0]).cell? ⟨b, off + 2, none⟩ = some (.string (ws.getD 2 ⟨#[]⟩)) := cell_kept hba (hcl 2 (by omega))
  have hsz := HSZ.out
  clear hb1 hba hbt HB0 HX0 HK0 HSL hcl
  rw [hk0] at hv0
  have trun := ne_run inp_run
  have tinp := eq_inp
  have tres := ne_res inp_res
  go_wp2_with (first | (refine wpList_store_row rfl 62 (.tmp 7) (.tmp 17) rfl w1.heap.size #[.int .i64 0, .int .i64 0, .int .u32 0] rfl rfl 62 #[.int .i64 0, .int .i64 0, .int .u32 0] HN1.out (by kernel_rfl) rfl (by simp [Value.oneCell']) ?_) | fail)
  refine Calls.mono (spec_num (ws.getD 1 ⟨#[]⟩) 7 _ (HSZ.out _)) ?_
  rintro e w5 ⟨rfl, hw5⟩
  subst hw5
  rw [show tell (Dc.ans (Tx.nums (ws.getD 1 ⟨#[]⟩)) 7) = .returned (.tuple #[.int .i64 d, .bool true]) by rw [show Dc.ans (Tx.nums (ws.getD 1 ⟨#[]⟩)) 7 = _ from hq]; rfl]
  go_wp2_with (first | (refine wpList_store_row rfl 62 (.tmp 7) (.tmp 17) rfl w1.heap.size #[.int .i64 0, .int .i64 0, .int .u32 0] rfl rfl 62 #[.int .i64 0, .int .i64 0, .int .u32 0] HN1.out (by kernel_rfl) rfl (by simp [Value.oneCell']) ?_) | fail)
  refine Calls.mono (spec_num (ws.getD 2 ⟨#[]⟩) 4294967295 _ (HSZ.out _)) ?_
  rintro e w6 ⟨rfl, hw6⟩
  subst hw6
  rw [show tell (Dc.ans (Tx.nums (ws.getD 2 ⟨#[]⟩)) 4294967295) = .returned (.tuple #[.int .i64 0, .bool false]) by rw [show Dc.ans (Tx.nums (ws.getD 2 ⟨#[]⟩)) 4294967295 = _ from hr]; rfl]
  have HRF : Hid ((((w1.alloc (.cells #[.int .i64 0, .int .i64 0, .int .u32 0] 62)).setRow w1.heap.size #[.int .i64 0, .int .i64 0, .int .u32 0]).setRow (w.heap.size + 1) #[.int .i64 0, .int .i64 0, .int .u32 0]).heap[w.heap.size + 1]? = some (.cells #[.int .i64 0, .int .i64 0, .int .u32 0] 62 (0, 0))) := setRow_heap _ _ _ _ _ _ HR2.out
  have n0 : (((w1.alloc (.cells #[.int .i64 0, .int .i64 0, .int .u32 0] 62)).setRow w1.heap.size #[.int .i64 0, .int .i64 0, .int .u32 0]).setRow (w.heap.size + 1) #[.int .i64 0, .int .i64 0, .int .u32 0]).cell? ⟨w.heap.size + 1, 0, none⟩ = some (.int .i64 0) := row_c HRF.out 0 _ rfl
  have n1 : (((w1.alloc (.cells #[.int .i64 0, .int .i64 0, .int .u32 0] 62)).setRow w1.heap.size #[.int .i64 0, .int .i64 0, .int .u32 0]).setRow (w.heap.size + 1) #[.int .i64 0, .int .i64 0, .int .u32 0]).cell? ⟨w.heap.size + 1, 1, none⟩ = some (.int .i64 0) := row_c HRF.out 1 _ rfl
  have n2 : (((w1.alloc (.cells #[.int .i64 0, .int .i64 0, .int .u32 0] 62)).setRow w1.heap.size #[.int .i64 0, .int .i64 0, .int .u32 0]).setRow (w.heap.size + 1) #[.int .i64 0, .int .i64 0, .int .u32 0]).cell? ⟨w.heap.size + 1, 2, none⟩ = some (.int .u32 0) := row_c HRF.out 2 _ rfl
  have HBF : Hid (Below w.heap.size w (((w1.alloc (.cells #[.int .i64 0, .int .i64 0, .int .u32 0] 62)).setRow w1.heap.size #[.int .i64 0, .int .i64 0, .int .u32 0]).setRow (w.heap.size + 1) #[.int .i64 0, .int .i64 0, .int .u32 0])) := below_setRow HB1.out (by omega) _
  clear HB1 HX1
  go_wp2_with (first | (refine wpList_store_row rfl 62 (.tmp 4) (.tmp 82) rfl (w.heap.size + 1) #[.int .i64 0, .int .i64 0, .int .u32 0] rfl rfl 62 #[.int .i64 0, .int .i64 0, .int .u32 0] HR2.out (by kernel_rfl) rfl (by simp [Value.oneCell']) ?_) | fail)
  exact bodyPost_ret (v := .tuple #[.agg #[.int .i64 0, .int .i64 0, .int .u32 0], .int .i64 2]) (by simp [results, Tryz.results44, go_sem, n0, n1, n2]) rfl ⟨rfl, HBF.out⟩
set_option maxRecDepth 40000 in
set_option maxHeartbeats 8000000 in
theorem sl_inp2 (t : Tb) (a : Ad) (s : ByteArray) (n : Nat) (ws : List ByteArray) (w : World) (hls : LS w t a s) (hws : Sp.texts 32 s = ws) (hn : ws.length = n) (hk0 : ws.getD 0 ⟨#[]⟩ = Sr.kinp) (h2 : n = 3) (d v : Int) (hq : Sr.numV (ws.getD 1 ⟨#[]⟩) 7 = some d) (hr : Sr.numV (ws.getD 2 ⟨#[]⟩) 4294967295 = some v) (hd : d < 0) :
    Calls Tryz.prog 44 #[tbV t a, .string s] w fun e w' => e = .returned (.tuple #[.agg #[.int .i64 0, .int .i64 0, .int .u32 0], .int .i64 2]) ∧ Below w.heap.size w w' := by
  have HB0 : Hid (Below w.heap.size w ((w.alloc (.cells (tbA t a) 43)).alloc (.cells #[.int .i64 0, .int .i64 0, .int .u32 0] 62))) := ((Below.refl _ _).alloc (Nat.le_refl _) _).alloc (by simp) _
  have HX0 : Hid (TBx ((w.alloc (.cells (tbA t a) 43)).alloc (.cells #[.int .i64 0, .int .i64 0, .int .u32 0] 62)) w.heap.size t a) := (TBx.new w t a _ rfl).below ((Below.refl _ _).alloc (Nat.le_refl _) _)
  have HK0 : Hid (((w.alloc (.cells (tbA t a) 43)).alloc (.cells #[.int .i64 0, .int .i64 0, .int .u32 0] 62)).heap[w.heap.size + 1]? = some (.cells #[.int .i64 0, .int .i64 0, .int .u32 0] 62 (0, 0))) := new_row (w.alloc (.cells (tbA t a) 43)) #[.int .i64 0, .int .i64 0, .int .u32 0] 62 _ (by simp)
  have hnp : 0 < n := by rw [← hn, ← hws]; exact Sr.texts_pos 32 s
  have hnb : n ≤ 1048577 := by
    rw [← hn, ← hws]
    have h1 := Sp.cut_many 32 s.data.toList
    have h2 : s.data.toList.length = s.size := rfl
    have h3 := hls.2.2.2
    unfold Sp.texts
    rw [List.length_map]
    omega
  have HSZ : Hid (∀ j, (ws.getD j ⟨#[]⟩).size ≤ 1048576) := fun j => by
    by_cases hj : j < ws.length
    · have h1 := Sr.texts_short 32 s (ws.getD j ⟨#[]⟩) (by rw [hws]; exact getD_in ws _ j hj)
      have := hls.2.2.2
      omega
    · rw [List.getD_eq_getElem?_getD, List.getElem?_eq_none (by omega)]
      decide
  have HSL : Hid (Calls Tryz.prog 72 #[.string s] ((w.alloc (.cells (tbA t a) 43)).alloc (.cells #[.int .i64 0, .int .i64 0, .int .u32 0] 62)) fun e w' => ∃ b off cap, e = .returned (.slice (some ⟨b, off, none⟩) n cap) ∧ n ≤ cap ∧ (∀ j, j < n → w'.cell? ⟨b, off + j, none⟩ = some (.string (ws.getD j ⟨#[]⟩))) ∧ Below ((w.alloc (.cells (tbA t a) 43)).alloc (.cells #[.int .i64 0, .int .i64 0, .int .u32 0] 62)).heap.size ((w.alloc (.cells (tbA t a) 43)).alloc (.cells #[.int .i64 0, .int .i64 0, .int .u32 0] 62)) w') := (spec_split s _ hls.2.2.2).mono fun e w' h => by
    obtain ⟨A, cap, h1, h2, h3, h4⟩ := h
    rw [hws] at h1 h2 h3
    rw [hn] at h1 h2
    obtain ⟨b, off, h5, h6, h7⟩ := flds_at h3 0 (by omega)
    subst h5
    exact ⟨b, off, cap, h1, h2, fun j hj => h7 j (by omega), h4⟩
  have HLS : Hid (∀ X, Below w.heap.size w X → PSegL 0 X a.pa a.pn t.ps a.Y) := fun X hX => hls.1.below hX
  have HL : Hid (t.ps.length = a.pn ∧ a.pn ≤ 1048576) := ⟨hls.2.1, hls.2.2.1⟩
  clear hls hws hn
  subst h2
  go_enter Tryz.func44, Tryz.ntmps44
  go_wp2_with fail
  refine Calls.mono HSL.out ?_
  rintro e w1 ⟨b, off, cap, rfl, hcap, hcl, hb1⟩
  have HN1 : Hid ((w1.alloc (.cells #[.int .i64 0, .int .i64 0, .int .u32 0] 62)).heap[w1.heap.size]? = some (.cells #[.int .i64 0, .int .i64 0, .int .u32 0] 62 (0, 0))) := new_row w1 _ _ _ rfl
  have hba : Below w1.heap.size w1 ((w1.alloc (.cells #[.int .i64 0, .int .i64 0, .int .u32 0] 62)).setRow w1.heap.size #[.int .i64 0, .int .i64 0, .int .u32 0]) := below_setRow ((Below.refl _ _).alloc (Nat.le_refl _) _) (Nat.le_refl _) _
  have hbt : Below ((w.alloc (.cells (tbA t a) 43)).alloc (.cells #[.int .i64 0, .int .i64 0, .int .u32 0] 62)).heap.size ((w.alloc (.cells (tbA t a) 43)).alloc (.cells #[.int .i64 0, .int .i64 0, .int .u32 0] 62)) ((w1.alloc (.cells #[.int .i64 0, .int .i64 0, .int .u32 0] 62)).setRow w1.heap.size #[.int .i64 0, .int .i64 0, .int .u32 0]) := hb1.trans (hba.mono hb1.size)
  have HB1 : Hid (Below w.heap.size w ((w1.alloc (.cells #[.int .i64 0, .int .i64 0, .int .u32 0] 62)).setRow w1.heap.size #[.int .i64 0, .int .i64 0, .int .u32 0])) := HB0.out.trans (hbt.mono HB0.out.size)
  have HX1 : Hid (TBx ((w1.alloc (.cells #[.int .i64 0, .int .i64 0, .int .u32 0] 62)).setRow w1.heap.size #[.int .i64 0, .int .i64 0, .int .u32 0]) w.heap.size t a) := HX0.out.below hbt
  have HR2 : Hid (((w1.alloc (.cells #[.int .i64 0, .int .i64 0, .int .u32 0] 62)).setRow w1.heap.size #[.int .i64 0, .int .i64 0, .int .u32 0]).heap[w.heap.size + 1]? = some (.cells #[.int .i64 0, .int .i64 0, .int .u32 0] 62 (0, 0))) := row_below HK0.out hbt
  have HRB : Hid (((w1.alloc (.cells #[.int .i64 0, .int .i64 0, .int .u32 0] 62)).setRow w1.heap.size #[.int .i64 0, .int .i64 0, .int .u32 0]).heap[w1.heap.size]? = some (.cells #[.int .i64 0, .int .i64 0, .int .u32 0] 62 (0, 0))) := setRow_heap _ _ _ _ _ _ HN1.out
  have z0 : ((w1.alloc (.cells #[.int .i64 0, .int .i64 0, .int .u32 0] 62)).setRow w1.heap.size #[.int .i64 0, .int .i64 0, .int .u32 0]).cell? ⟨w1.heap.size, 0, none⟩ = some (.int .i64 0) := row_c HRB.out 0 _ rfl
  have z1 : ((w1.alloc (.cells #[.int .i64 0, .int .i64 0, .int .u32 0] 62)).setRow w1.heap.size #[.int .i64 0, .int .i64 0, .int .u32 0]).cell? ⟨w1.heap.size, 1, none⟩ = some (.int .i64 0) := row_c HRB.out 1 _ rfl
  have z2 : ((w1.alloc (.cells #[.int .i64 0, .int .i64 0, .int .u32 0] 62)).setRow w1.heap.size #[.int .i64 0, .int .i64 0, .int .u32 0]).cell? ⟨w1.heap.size, 2, none⟩ = some (.int .u32 0) := row_c HRB.out 2 _ rfl
  have hv0 : ((w1.alloc (.cells #[.int .i64 0, .int .i64 0, .int .u32 0] 62)).setRow w1.heap.size #[.int .i64 0, .int .i64 0, .int .u32 0]).cell? ⟨b, off, none⟩ = some (.string (ws.getD 0 ⟨#[]⟩)) := by
    have := cell_kept hba (hcl 0 (by omega))
    simpa using this
  have hv1 : ((w1.alloc (.cells #[.int .i64 0, .int .i64 0, .int .u32 0] 62)).setRow w1.heap.size #[.int .i64 0, .int .i64 0, .int .u32 0]).cell? ⟨b, off + 1, none⟩ = some (.string (ws.getD 1 ⟨#[]⟩)) := cell_kept hba (hcl 1 (by omega))
  have hv2 : ((w1.alloc (.cells #[.int .i64 0, .int .i64 0, .int .u32 0] 62)).setRow w1.heap.size #[.int .i64 0, .int .i64 0, .int .u32 0]).cell? ⟨b, off + 2, none⟩ = some (.string (ws.getD 2 ⟨#[]⟩)) := cell_kept hba (hcl 2 (by omega))
  have hsz := HSZ.out
  clear hb1 hba hbt HB0 HX0 HK0 HSL hcl
  rw [hk0] at hv0
  have trun := ne_run inp_run
  have tinp := eq_inp
  have tres := ne_res inp_res
  go_wp2_with (first | (refine wpList_store_row rfl 62 (.tmp 7) (.tmp 17) rfl w1.heap.size #[.int .i64 0, .int .i64 0, .int .u32 0] rfl rfl 62 #[.int .i64 0, .int .i64 0, .int .u32 0] HN1.out (by kernel_rfl) rfl (by simp [Value.oneCell']) ?_) | fail)
  refine Calls.mono (spec_num (ws.getD 1 ⟨#[]⟩) 7 _ (HSZ.out _)) ?_
  rintro e w5 ⟨rfl, hw5⟩
  subst hw5
  rw [show tell (Dc.ans (Tx.nums (ws.getD 1 ⟨#[]⟩)) 7) = .returned (.tuple #[.int .i64 d, .bool true]) by rw [show Dc.ans (Tx.nums (ws.getD 1 ⟨#[]⟩)) 7 = _ from hq]; rfl]
  go_wp2_with (first | (refine wpList_store_row rfl 62 (.tmp 7) (.tmp 17) rfl w1.heap.size #[.int .i64 0, .int .i64 0, .int .u32 0] rfl rfl 62 #[.int .i64 0, .int .i64 0, .int .u32 0] HN1.out (by kernel_rfl) rfl (by simp [Value.oneCell']) ?_) | fail)
  refine Calls.mono (spec_num (ws.getD 2 ⟨#[]⟩) 4294967295 _ (HSZ.out _)) ?_
  rintro e w6 ⟨rfl, hw6⟩
  subst hw6
  rw [show tell (Dc.ans (Tx.nums (ws.getD 2 ⟨#[]⟩)) 4294967295) = .returned (.tuple #[.int .i64 v, .bool true]) by rw [show Dc.ans (Tx.nums (ws.getD 2 ⟨#[]⟩)) 4294967295 = _ from hr]; rfl]
  have HRF : Hid ((((w1.alloc (.cells #[.int .i64 0, .int .i64 0, .int .u32 0] 62)).setRow w1.heap.size #[.int .i64 0, .int .i64 0, .int .u32 0]).setRow (w.heap.size + 1) #[.int .i64 0, .int .i64 0, .int .u32 0]).heap[w.heap.size + 1]? = some (.cells #[.int .i64 0, .int .i64 0, .int .u32 0] 62 (0, 0))) := setRow_heap _ _ _ _ _ _ HR2.out
  have n0 : (((w1.alloc (.cells #[.int .i64 0, .int .i64 0, .int .u32 0] 62)).setRow w1.heap.size #[.int .i64 0, .int .i64 0, .int .u32 0]).setRow (w.heap.size + 1) #[.int .i64 0, .int .i64 0, .int .u32 0]).cell? ⟨w.heap.size + 1, 0, none⟩ = some (.int .i64 0) := row_c HRF.out 0 _ rfl
  have n1 : (((w1.alloc (.cells #[.int .i64 0, .int .i64 0, .int .u32 0] 62)).setRow w1.heap.size #[.int .i64 0, .int .i64 0, .int .u32 0]).setRow (w.heap.size + 1) #[.int .i64 0, .int .i64 0, .int .u32 0]).cell? ⟨w.heap.size + 1, 1, none⟩ = some (.int .i64 0) := row_c HRF.out 1 _ rfl
  have n2 : (((w1.alloc (.cells #[.int .i64 0, .int .i64 0, .int .u32 0] 62)).setRow w1.heap.size #[.int .i64 0, .int .i64 0, .int .u32 0]).setRow (w.heap.size + 1) #[.int .i64 0, .int .i64 0, .int .u32 0]).cell? ⟨w.heap.size + 1, 2, none⟩ = some (.int .u32 0) := row_c HRF.out 2 _ rfl
  have HBF : Hid (Below w.heap.size w (((w1.alloc (.cells #[.int .i64 0, .int .i64 0, .int .u32 0] 62)).setRow w1.heap.size #[.int .i64 0, .int .i64 0, .int .u32 0]).setRow (w.heap.size + 1) #[.int .i64 0, .int .i64 0, .int .u32 0])) := below_setRow HB1.out (by omega) _
  clear HB1 HX1
  go_wp2_with (first | (refine wpList_store_row rfl 62 (.tmp 4) (.tmp 82) rfl (w.heap.size + 1) #[.int .i64 0, .int .i64 0, .int .u32 0] rfl rfl 62 #[.int .i64 0, .int .i64 0, .int .u32 0] HR2.out (by kernel_rfl) rfl (by simp [Value.oneCell']) ?_) | fail)
  exact bodyPost_ret (v := .tuple #[.agg #[.int .i64 0, .int .i64 0, .int .u32 0], .int .i64 2]) (by simp [results, Tryz.results44, go_sem, n0, n1, n2]) rfl ⟨rfl, HBF.out⟩
set_option maxRecDepth 40000 in
set_option maxHeartbeats 8000000 in
theorem sl_inp3 (t : Tb) (a : Ad) (s : ByteArray) (n : Nat) (ws : List ByteArray) (w : World) (hls : LS w t a s) (hws : Sp.texts 32 s = ws) (hn : ws.length = n) (hk0 : ws.getD 0 ⟨#[]⟩ = Sr.kinp) (h2 : n = 3) (d v : Int) (hq : Sr.numV (ws.getD 1 ⟨#[]⟩) 7 = some d) (hr : Sr.numV (ws.getD 2 ⟨#[]⟩) 4294967295 = some v) (hd : ¬ d < 0) (hv : v < 0) :
    Calls Tryz.prog 44 #[tbV t a, .string s] w fun e w' => e = .returned (.tuple #[.agg #[.int .i64 0, .int .i64 0, .int .u32 0], .int .i64 2]) ∧ Below w.heap.size w w' := by
  have HB0 : Hid (Below w.heap.size w ((w.alloc (.cells (tbA t a) 43)).alloc (.cells #[.int .i64 0, .int .i64 0, .int .u32 0] 62))) := ((Below.refl _ _).alloc (Nat.le_refl _) _).alloc (by simp) _
  have HX0 : Hid (TBx ((w.alloc (.cells (tbA t a) 43)).alloc (.cells #[.int .i64 0, .int .i64 0, .int .u32 0] 62)) w.heap.size t a) := (TBx.new w t a _ rfl).below ((Below.refl _ _).alloc (Nat.le_refl _) _)
  have HK0 : Hid (((w.alloc (.cells (tbA t a) 43)).alloc (.cells #[.int .i64 0, .int .i64 0, .int .u32 0] 62)).heap[w.heap.size + 1]? = some (.cells #[.int .i64 0, .int .i64 0, .int .u32 0] 62 (0, 0))) := new_row (w.alloc (.cells (tbA t a) 43)) #[.int .i64 0, .int .i64 0, .int .u32 0] 62 _ (by simp)
  have hnp : 0 < n := by rw [← hn, ← hws]; exact Sr.texts_pos 32 s
  have hnb : n ≤ 1048577 := by
    rw [← hn, ← hws]
    have h1 := Sp.cut_many 32 s.data.toList
    have h2 : s.data.toList.length = s.size := rfl
    have h3 := hls.2.2.2
    unfold Sp.texts
    rw [List.length_map]
    omega
  have HSZ : Hid (∀ j, (ws.getD j ⟨#[]⟩).size ≤ 1048576) := fun j => by
    by_cases hj : j < ws.length
    · have h1 := Sr.texts_short 32 s (ws.getD j ⟨#[]⟩) (by rw [hws]; exact getD_in ws _ j hj)
      have := hls.2.2.2
      omega
    · rw [List.getD_eq_getElem?_getD, List.getElem?_eq_none (by omega)]
      decide
  have HSL : Hid (Calls Tryz.prog 72 #[.string s] ((w.alloc (.cells (tbA t a) 43)).alloc (.cells #[.int .i64 0, .int .i64 0, .int .u32 0] 62)) fun e w' => ∃ b off cap, e = .returned (.slice (some ⟨b, off, none⟩) n cap) ∧ n ≤ cap ∧ (∀ j, j < n → w'.cell? ⟨b, off + j, none⟩ = some (.string (ws.getD j ⟨#[]⟩))) ∧ Below ((w.alloc (.cells (tbA t a) 43)).alloc (.cells #[.int .i64 0, .int .i64 0, .int .u32 0] 62)).heap.size ((w.alloc (.cells (tbA t a) 43)).alloc (.cells #[.int .i64 0, .int .i64 0, .int .u32 0] 62)) w') := (spec_split s _ hls.2.2.2).mono fun e w' h => by
    obtain ⟨A, cap, h1, h2, h3, h4⟩ := h
    rw [hws] at h1 h2 h3
    rw [hn] at h1 h2
    obtain ⟨b, off, h5, h6, h7⟩ := flds_at h3 0 (by omega)
    subst h5
    exact ⟨b, off, cap, h1, h2, fun j hj => h7 j (by omega), h4⟩
  have HLS : Hid (∀ X, Below w.heap.size w X → PSegL 0 X a.pa a.pn t.ps a.Y) := fun X hX => hls.1.below hX
  have HL : Hid (t.ps.length = a.pn ∧ a.pn ≤ 1048576) := ⟨hls.2.1, hls.2.2.1⟩
  clear hls hws hn
  subst h2
  go_enter Tryz.func44, Tryz.ntmps44
  go_wp2_with fail
  refine Calls.mono HSL.out ?_
  rintro e w1 ⟨b, off, cap, rfl, hcap, hcl, hb1⟩
  have HN1 : Hid ((w1.alloc (.cells #[.int .i64 0, .int .i64 0, .int .u32 0] 62)).heap[w1.heap.size]? = some (.cells #[.int .i64 0, .int .i64 0, .int .u32 0] 62 (0, 0))) := new_row w1 _ _ _ rfl
  have hba : Below w1.heap.size w1 ((w1.alloc (.cells #[.int .i64 0, .int .i64 0, .int .u32 0] 62)).setRow w1.heap.size #[.int .i64 0, .int .i64 0, .int .u32 0]) := below_setRow ((Below.refl _ _).alloc (Nat.le_refl _) _) (Nat.le_refl _) _
  have hbt : Below ((w.alloc (.cells (tbA t a) 43)).alloc (.cells #[.int .i64 0, .int .i64 0, .int .u32 0] 62)).heap.size ((w.alloc (.cells (tbA t a) 43)).alloc (.cells #[.int .i64 0, .int .i64 0, .int .u32 0] 62)) ((w1.alloc (.cells #[.int .i64 0, .int .i64 0, .int .u32 0] 62)).setRow w1.heap.size #[.int .i64 0, .int .i64 0, .int .u32 0]) := hb1.trans (hba.mono hb1.size)
  have HB1 : Hid (Below w.heap.size w ((w1.alloc (.cells #[.int .i64 0, .int .i64 0, .int .u32 0] 62)).setRow w1.heap.size #[.int .i64 0, .int .i64 0, .int .u32 0])) := HB0.out.trans (hbt.mono HB0.out.size)
  have HX1 : Hid (TBx ((w1.alloc (.cells #[.int .i64 0, .int .i64 0, .int .u32 0] 62)).setRow w1.heap.size #[.int .i64 0, .int .i64 0, .int .u32 0]) w.heap.size t a) := HX0.out.below hbt
  have HR2 : Hid (((w1.alloc (.cells #[.int .i64 0, .int .i64 0, .int .u32 0] 62)).setRow w1.heap.size #[.int .i64 0, .int .i64 0, .int .u32 0]).heap[w.heap.size + 1]? = some (.cells #[.int .i64 0, .int .i64 0, .int .u32 0] 62 (0, 0))) := row_below HK0.out hbt
  have HRB : Hid (((w1.alloc (.cells #[.int .i64 0, .int .i64 0, .int .u32 0] 62)).setRow w1.heap.size #[.int .i64 0, .int .i64 0, .int .u32 0]).heap[w1.heap.size]? = some (.cells #[.int .i64 0, .int .i64 0, .int .u32 0] 62 (0, 0))) := setRow_heap _ _ _ _ _ _ HN1.out
  have z0 : ((w1.alloc (.cells #[.int .i64 0, .int .i64 0, .int .u32 0] 62)).setRow w1.heap.size #[.int .i64 0, .int .i64 0, .int .u32 0]).cell? ⟨w1.heap.size, 0, none⟩ = some (.int .i64 0) := row_c HRB.out 0 _ rfl
  have z1 : ((w1.alloc (.cells #[.int .i64 0, .int .i64 0, .int .u32 0] 62)).setRow w1.heap.size #[.int .i64 0, .int .i64 0, .int .u32 0]).cell? ⟨w1.heap.size, 1, none⟩ = some (.int .i64 0) := row_c HRB.out 1 _ rfl
  have z2 : ((w1.alloc (.cells #[.int .i64 0, .int .i64 0, .int .u32 0] 62)).setRow w1.heap.size #[.int .i64 0, .int .i64 0, .int .u32 0]).cell? ⟨w1.heap.size, 2, none⟩ = some (.int .u32 0) := row_c HRB.out 2 _ rfl
  have hv0 : ((w1.alloc (.cells #[.int .i64 0, .int .i64 0, .int .u32 0] 62)).setRow w1.heap.size #[.int .i64 0, .int .i64 0, .int .u32 0]).cell? ⟨b, off, none⟩ = some (.string (ws.getD 0 ⟨#[]⟩)) := by
    have := cell_kept hba (hcl 0 (by omega))
    simpa using this
  have hv1 : ((w1.alloc (.cells #[.int .i64 0, .int .i64 0, .int .u32 0] 62)).setRow w1.heap.size #[.int .i64 0, .int .i64 0, .int .u32 0]).cell? ⟨b, off + 1, none⟩ = some (.string (ws.getD 1 ⟨#[]⟩)) := cell_kept hba (hcl 1 (by omega))
  have hv2 : ((w1.alloc (.cells #[.int .i64 0, .int .i64 0, .int .u32 0] 62)).setRow w1.heap.size #[.int .i64 0, .int .i64 0, .int .u32 0]).cell? ⟨b, off + 2, none⟩ = some (.string (ws.getD 2 ⟨#[]⟩)) := cell_kept hba (hcl 2 (by omega))
  have hsz := HSZ.out
  clear hb1 hba hbt HB0 HX0 HK0 HSL hcl
  rw [hk0] at hv0
  have trun := ne_run inp_run
  have tinp := eq_inp
  have tres := ne_res inp_res
  go_wp2_with (first | (refine wpList_store_row rfl 62 (.tmp 7) (.tmp 17) rfl w1.heap.size #[.int .i64 0, .int .i64 0, .int .u32 0] rfl rfl 62 #[.int .i64 0, .int .i64 0, .int .u32 0] HN1.out (by kernel_rfl) rfl (by simp [Value.oneCell']) ?_) | fail)
  refine Calls.mono (spec_num (ws.getD 1 ⟨#[]⟩) 7 _ (HSZ.out _)) ?_
  rintro e w5 ⟨rfl, hw5⟩
  subst hw5
  rw [show tell (Dc.ans (Tx.nums (ws.getD 1 ⟨#[]⟩)) 7) = .returned (.tuple #[.int .i64 d, .bool true]) by rw [show Dc.ans (Tx.nums (ws.getD 1 ⟨#[]⟩)) 7 = _ from hq]; rfl]
  go_wp2_with (first | (refine wpList_store_row rfl 62 (.tmp 7) (.tmp 17) rfl w1.heap.size #[.int .i64 0, .int .i64 0, .int .u32 0] rfl rfl 62 #[.int .i64 0, .int .i64 0, .int .u32 0] HN1.out (by kernel_rfl) rfl (by simp [Value.oneCell']) ?_) | fail)
  refine Calls.mono (spec_num (ws.getD 2 ⟨#[]⟩) 4294967295 _ (HSZ.out _)) ?_
  rintro e w6 ⟨rfl, hw6⟩
  subst hw6
  rw [show tell (Dc.ans (Tx.nums (ws.getD 2 ⟨#[]⟩)) 4294967295) = .returned (.tuple #[.int .i64 v, .bool true]) by rw [show Dc.ans (Tx.nums (ws.getD 2 ⟨#[]⟩)) 4294967295 = _ from hr]; rfl]
  have HRF : Hid ((((w1.alloc (.cells #[.int .i64 0, .int .i64 0, .int .u32 0] 62)).setRow w1.heap.size #[.int .i64 0, .int .i64 0, .int .u32 0]).setRow (w.heap.size + 1) #[.int .i64 0, .int .i64 0, .int .u32 0]).heap[w.heap.size + 1]? = some (.cells #[.int .i64 0, .int .i64 0, .int .u32 0] 62 (0, 0))) := setRow_heap _ _ _ _ _ _ HR2.out
  have n0 : (((w1.alloc (.cells #[.int .i64 0, .int .i64 0, .int .u32 0] 62)).setRow w1.heap.size #[.int .i64 0, .int .i64 0, .int .u32 0]).setRow (w.heap.size + 1) #[.int .i64 0, .int .i64 0, .int .u32 0]).cell? ⟨w.heap.size + 1, 0, none⟩ = some (.int .i64 0) := row_c HRF.out 0 _ rfl
  have n1 : (((w1.alloc (.cells #[.int .i64 0, .int .i64 0, .int .u32 0] 62)).setRow w1.heap.size #[.int .i64 0, .int .i64 0, .int .u32 0]).setRow (w.heap.size + 1) #[.int .i64 0, .int .i64 0, .int .u32 0]).cell? ⟨w.heap.size + 1, 1, none⟩ = some (.int .i64 0) := row_c HRF.out 1 _ rfl
  have n2 : (((w1.alloc (.cells #[.int .i64 0, .int .i64 0, .int .u32 0] 62)).setRow w1.heap.size #[.int .i64 0, .int .i64 0, .int .u32 0]).setRow (w.heap.size + 1) #[.int .i64 0, .int .i64 0, .int .u32 0]).cell? ⟨w.heap.size + 1, 2, none⟩ = some (.int .u32 0) := row_c HRF.out 2 _ rfl
  have HBF : Hid (Below w.heap.size w (((w1.alloc (.cells #[.int .i64 0, .int .i64 0, .int .u32 0] 62)).setRow w1.heap.size #[.int .i64 0, .int .i64 0, .int .u32 0]).setRow (w.heap.size + 1) #[.int .i64 0, .int .i64 0, .int .u32 0])) := below_setRow HB1.out (by omega) _
  clear HB1 HX1
  go_wp2_with (first | (refine wpList_store_row rfl 62 (.tmp 4) (.tmp 82) rfl (w.heap.size + 1) #[.int .i64 0, .int .i64 0, .int .u32 0] rfl rfl 62 #[.int .i64 0, .int .i64 0, .int .u32 0] HR2.out (by kernel_rfl) rfl (by simp [Value.oneCell']) ?_) | fail)
  exact bodyPost_ret (v := .tuple #[.agg #[.int .i64 0, .int .i64 0, .int .u32 0], .int .i64 2]) (by simp [results, Tryz.results44, go_sem, n0, n1, n2]) rfl ⟨rfl, HBF.out⟩
set_option maxRecDepth 40000 in
set_option maxHeartbeats 8000000 in
theorem sl_inp4 (t : Tb) (a : Ad) (s : ByteArray) (n : Nat) (ws : List ByteArray) (w : World) (hls : LS w t a s) (hws : Sp.texts 32 s = ws) (hn : ws.length = n) (hk0 : ws.getD 0 ⟨#[]⟩ = Sr.kinp) (h2 : n = 3) (d v u : Int) (hq : Sr.numV (ws.getD 1 ⟨#[]⟩) 7 = some d) (hr : Sr.numV (ws.getD 2 ⟨#[]⟩) 4294967295 = some v) (hd : ¬ d < 0) (hv : ¬ v < 0) (hu : IntKind.u32.wrap v = u) :
    Calls Tryz.prog 44 #[tbV t a, .string s] w fun e w' => e = .returned (.tuple #[.agg #[.int .i64 1, .int .i64 d, .int .u32 u], .int .i64 0]) ∧ Below w.heap.size w w' := by
  have HB0 : Hid (Below w.heap.size w ((w.alloc (.cells (tbA t a) 43)).alloc (.cells #[.int .i64 0, .int .i64 0, .int .u32 0] 62))) := ((Below.refl _ _).alloc (Nat.le_refl _) _).alloc (by simp) _
  have HX0 : Hid (TBx ((w.alloc (.cells (tbA t a) 43)).alloc (.cells #[.int .i64 0, .int .i64 0, .int .u32 0] 62)) w.heap.size t a) := (TBx.new w t a _ rfl).below ((Below.refl _ _).alloc (Nat.le_refl _) _)
  have HK0 : Hid (((w.alloc (.cells (tbA t a) 43)).alloc (.cells #[.int .i64 0, .int .i64 0, .int .u32 0] 62)).heap[w.heap.size + 1]? = some (.cells #[.int .i64 0, .int .i64 0, .int .u32 0] 62 (0, 0))) := new_row (w.alloc (.cells (tbA t a) 43)) #[.int .i64 0, .int .i64 0, .int .u32 0] 62 _ (by simp)
  have hnp : 0 < n := by rw [← hn, ← hws]; exact Sr.texts_pos 32 s
  have hnb : n ≤ 1048577 := by
    rw [← hn, ← hws]
    have h1 := Sp.cut_many 32 s.data.toList
    have h2 : s.data.toList.length = s.size := rfl
    have h3 := hls.2.2.2
    unfold Sp.texts
    rw [List.length_map]
    omega
  have HSZ : Hid (∀ j, (ws.getD j ⟨#[]⟩).size ≤ 1048576) := fun j => by
    by_cases hj : j < ws.length
    · have h1 := Sr.texts_short 32 s (ws.getD j ⟨#[]⟩) (by rw [hws]; exact getD_in ws _ j hj)
      have := hls.2.2.2
      omega
    · rw [List.getD_eq_getElem?_getD, List.getElem?_eq_none (by omega)]
      decide
  have HSL : Hid (Calls Tryz.prog 72 #[.string s] ((w.alloc (.cells (tbA t a) 43)).alloc (.cells #[.int .i64 0, .int .i64 0, .int .u32 0] 62)) fun e w' => ∃ b off cap, e = .returned (.slice (some ⟨b, off, none⟩) n cap) ∧ n ≤ cap ∧ (∀ j, j < n → w'.cell? ⟨b, off + j, none⟩ = some (.string (ws.getD j ⟨#[]⟩))) ∧ Below ((w.alloc (.cells (tbA t a) 43)).alloc (.cells #[.int .i64 0, .int .i64 0, .int .u32 0] 62)).heap.size ((w.alloc (.cells (tbA t a) 43)).alloc (.cells #[.int .i64 0, .int .i64 0, .int .u32 0] 62)) w') := (spec_split s _ hls.2.2.2).mono fun e w' h => by
    obtain ⟨A, cap, h1, h2, h3, h4⟩ := h
    rw [hws] at h1 h2 h3
    rw [hn] at h1 h2
    obtain ⟨b, off, h5, h6, h7⟩ := flds_at h3 0 (by omega)
    subst h5
    exact ⟨b, off, cap, h1, h2, fun j hj => h7 j (by omega), h4⟩
  have HLS : Hid (∀ X, Below w.heap.size w X → PSegL 0 X a.pa a.pn t.ps a.Y) := fun X hX => hls.1.below hX
  have HL : Hid (t.ps.length = a.pn ∧ a.pn ≤ 1048576) := ⟨hls.2.1, hls.2.2.1⟩
  clear hls hws hn
  subst h2
  go_enter Tryz.func44, Tryz.ntmps44
  go_wp2_with fail
  refine Calls.mono HSL.out ?_
  rintro e w1 ⟨b, off, cap, rfl, hcap, hcl, hb1⟩
  have HN1 : Hid ((w1.alloc (.cells #[.int .i64 0, .int .i64 0, .int .u32 0] 62)).heap[w1.heap.size]? = some (.cells #[.int .i64 0, .int .i64 0, .int .u32 0] 62 (0, 0))) := new_row w1 _ _ _ rfl
  have hba : Below w1.heap.size w1 ((w1.alloc (.cells #[.int .i64 0, .int .i64 0, .int .u32 0] 62)).setRow w1.heap.size #[.int .i64 0, .int .i64 0, .int .u32 0]) := below_setRow ((Below.refl _ _).alloc (Nat.le_refl _) _) (Nat.le_refl _) _
  have hbt : Below ((w.alloc (.cells (tbA t a) 43)).alloc (.cells #[.int .i64 0, .int .i64 0, .int .u32 0] 62)).heap.size ((w.alloc (.cells (tbA t a) 43)).alloc (.cells #[.int .i64 0, .int .i64 0, .int .u32 0] 62)) ((w1.alloc (.cells #[.int .i64 0, .int .i64 0, .int .u32 0] 62)).setRow w1.heap.size #[.int .i64 0, .int .i64 0, .int .u32 0]) := hb1.trans (hba.mono hb1.size)
  have HB1 : Hid (Below w.heap.size w ((w1.alloc (.cells #[.int .i64 0, .int .i64 0, .int .u32 0] 62)).setRow w1.heap.size #[.int .i64 0, .int .i64 0, .int .u32 0])) := HB0.out.trans (hbt.mono HB0.out.size)
  have HX1 : Hid (TBx ((w1.alloc (.cells #[.int .i64 0, .int .i64 0, .int .u32 0] 62)).setRow w1.heap.size #[.int .i64 0, .int .i64 0, .int .u32 0]) w.heap.size t a) := HX0.out.below hbt
  have HR2 : Hid (((w1.alloc (.cells #[.int .i64 0, .int .i64 0, .int .u32 0] 62)).setRow w1.heap.size #[.int .i64 0, .int .i64 0, .int .u32 0]).heap[w.heap.size + 1]? = some (.cells #[.int .i64 0, .int .i64 0, .int .u32 0] 62 (0, 0))) := row_below HK0.out hbt
  have HRB : Hid (((w1.alloc (.cells #[.int .i64 0, .int .i64 0, .int .u32 0] 62)).setRow w1.heap.size #[.int .i64 0, .int .i64 0, .int .u32 0]).heap[w1.heap.size]? = some (.cells #[.int .i64 0, .int .i64 0, .int .u32 0] 62 (0, 0))) := setRow_heap _ _ _ _ _ _ HN1.out
  have z0 : ((w1.alloc (.cells #[.int .i64 0, .int .i64 0, .int .u32 0] 62)).setRow w1.heap.size #[.int .i64 0, .int .i64 0, .int .u32 0]).cell? ⟨w1.heap.size, 0, none⟩ = some (.int .i64 0) := row_c HRB.out 0 _ rfl
  have z1 : ((w1.alloc (.cells #[.int .i64 0, .int .i64 0, .int .u32 0] 62)).setRow w1.heap.size #[.int .i64 0, .int .i64 0, .int .u32 0]).cell? ⟨w1.heap.size, 1, none⟩ = some (.int .i64 0) := row_c HRB.out 1 _ rfl
  have z2 : ((w1.alloc (.cells #[.int .i64 0, .int .i64 0, .int .u32 0] 62)).setRow w1.heap.size #[.int .i64 0, .int .i64 0, .int .u32 0]).cell? ⟨w1.heap.size, 2, none⟩ = some (.int .u32 0) := row_c HRB.out 2 _ rfl
  have hv0 : ((w1.alloc (.cells #[.int .i64 0, .int .i64 0, .int .u32 0] 62)).setRow w1.heap.size #[.int .i64 0, .int .i64 0, .int .u32 0]).cell? ⟨b, off, none⟩ = some (.string (ws.getD 0 ⟨#[]⟩)) := by
    have := cell_kept hba (hcl 0 (by omega))
    simpa using this
  have hv1 : ((w1.alloc (.cells #[.int .i64 0, .int .i64 0, .int .u32 0] 62)).setRow w1.heap.size #[.int .i64 0, .int .i64 0, .int .u32 0]).cell? ⟨b, off + 1, none⟩ = some (.string (ws.getD 1 ⟨#[]⟩)) := cell_kept hba (hcl 1 (by omega))
  have hv2 : ((w1.alloc (.cells #[.int .i64 0, .int .i64 0, .int .u32 0] 62)).setRow w1.heap.size #[.int .i64 0, .int .i64 0, .int .u32 0]).cell? ⟨b, off + 2, none⟩ = some (.string (ws.getD 2 ⟨#[]⟩)) := cell_kept hba (hcl 2 (by omega))
  have hsz := HSZ.out
  clear hb1 hba hbt HB0 HX0 HK0 HSL hcl
  rw [hk0] at hv0
  have trun := ne_run inp_run
  have tinp := eq_inp
  have tres := ne_res inp_res
  go_wp2_with (first | (refine wpList_store_row rfl 62 (.tmp 7) (.tmp 17) rfl w1.heap.size #[.int .i64 0, .int .i64 0, .int .u32 0] rfl rfl 62 #[.int .i64 0, .int .i64 0, .int .u32 0] HN1.out (by kernel_rfl) rfl (by simp [Value.oneCell']) ?_) | fail)
  refine Calls.mono (spec_num (ws.getD 1 ⟨#[]⟩) 7 _ (HSZ.out _)) ?_
  rintro e w5 ⟨rfl, hw5⟩
  subst hw5
  rw [show tell (Dc.ans (Tx.nums (ws.getD 1 ⟨#[]⟩)) 7) = .returned (.tuple #[.int .i64 d, .bool true]) by rw [show Dc.ans (Tx.nums (ws.getD 1 ⟨#[]⟩)) 7 = _ from hq]; rfl]
  go_wp2_with (first | (refine wpList_store_row rfl 62 (.tmp 7) (.tmp 17) rfl w1.heap.size #[.int .i64 0, .int .i64 0, .int .u32 0] rfl rfl 62 #[.int .i64 0, .int .i64 0, .int .u32 0] HN1.out (by kernel_rfl) rfl (by simp [Value.oneCell']) ?_) | fail)
  refine Calls.mono (spec_num (ws.getD 2 ⟨#[]⟩) 4294967295 _ (HSZ.out _)) ?_
  rintro e w6 ⟨rfl, hw6⟩
  subst hw6
  rw [show tell (Dc.ans (Tx.nums (ws.getD 2 ⟨#[]⟩)) 4294967295) = .returned (.tuple #[.int .i64 v, .bool true]) by rw [show Dc.ans (Tx.nums (ws.getD 2 ⟨#[]⟩)) 4294967295 = _ from hr]; rfl]
  have HRF : Hid ((((w1.alloc (.cells #[.int .i64 0, .int .i64 0, .int .u32 0] 62)).setRow w1.heap.size #[.int .i64 0, .int .i64 0, .int .u32 0]).setRow (w.heap.size + 1) #[.int .i64 1, .int .i64 d, .int .u32 u]).heap[w.heap.size + 1]? = some (.cells #[.int .i64 1, .int .i64 d, .int .u32 u] 62 (0, 0))) := setRow_heap _ _ _ _ _ _ HR2.out
  have n0 : (((w1.alloc (.cells #[.int .i64 0, .int .i64 0, .int .u32 0] 62)).setRow w1.heap.size #[.int .i64 0, .int .i64 0, .int .u32 0]).setRow (w.heap.size + 1) #[.int .i64 1, .int .i64 d, .int .u32 u]).cell? ⟨w.heap.size + 1, 0, none⟩ = some (.int .i64 1) := row_c HRF.out 0 _ rfl
  have n1 : (((w1.alloc (.cells #[.int .i64 0, .int .i64 0, .int .u32 0] 62)).setRow w1.heap.size #[.int .i64 0, .int .i64 0, .int .u32 0]).setRow (w.heap.size + 1) #[.int .i64 1, .int .i64 d, .int .u32 u]).cell? ⟨w.heap.size + 1, 1, none⟩ = some (.int .i64 d) := row_c HRF.out 1 _ rfl
  have n2 : (((w1.alloc (.cells #[.int .i64 0, .int .i64 0, .int .u32 0] 62)).setRow w1.heap.size #[.int .i64 0, .int .i64 0, .int .u32 0]).setRow (w.heap.size + 1) #[.int .i64 1, .int .i64 d, .int .u32 u]).cell? ⟨w.heap.size + 1, 2, none⟩ = some (.int .u32 u) := row_c HRF.out 2 _ rfl
  have HBF : Hid (Below w.heap.size w (((w1.alloc (.cells #[.int .i64 0, .int .i64 0, .int .u32 0] 62)).setRow w1.heap.size #[.int .i64 0, .int .i64 0, .int .u32 0]).setRow (w.heap.size + 1) #[.int .i64 1, .int .i64 d, .int .u32 u])) := below_setRow HB1.out (by omega) _
  clear HB1 HX1
  go_wp2_with (first | (refine wpList_store_row rfl 62 (.tmp 4) (.tmp 86) rfl (w.heap.size + 1) #[.int .i64 1, .int .i64 d, .int .u32 u] rfl rfl 62 #[.int .i64 0, .int .i64 0, .int .u32 0] HR2.out (by kernel_rfl) rfl (by simp [Value.oneCell']) ?_) | fail)
  exact bodyPost_ret (v := .tuple #[.agg #[.int .i64 1, .int .i64 d, .int .u32 u], .int .i64 0]) (by simp [results, Tryz.results44, go_sem, n0, n1, n2]) rfl ⟨rfl, HBF.out⟩
set_option maxRecDepth 40000 in
set_option maxHeartbeats 8000000 in
theorem sl_res0 (t : Tb) (a : Ad) (s : ByteArray) (n : Nat) (ws : List ByteArray) (w : World) (hls : LS w t a s) (hws : Sp.texts 32 s = ws) (hn : ws.length = n) (hk0 : ws.getD 0 ⟨#[]⟩ = Sr.kres) (h2 : n = 2) (r : Int) (hr : Sr.nmV t (ws.getD 1 ⟨#[]⟩) = r) (hneg : r < 0) :
    Calls Tryz.prog 44 #[tbV t a, .string s] w fun e w' => e = .returned (.tuple #[.agg #[.int .i64 0, .int .i64 0, .int .u32 0], .int .i64 3]) ∧ Below w.heap.size w w' := by
  have HB0 : Hid (Below w.heap.size w ((w.alloc (.cells (tbA t a) 43)).alloc (.cells #[.int .i64 0, .int .i64 0, .int .u32 0] 62))) := ((Below.refl _ _).alloc (Nat.le_refl _) _).alloc (by simp) _
  have HX0 : Hid (TBx ((w.alloc (.cells (tbA t a) 43)).alloc (.cells #[.int .i64 0, .int .i64 0, .int .u32 0] 62)) w.heap.size t a) := (TBx.new w t a _ rfl).below ((Below.refl _ _).alloc (Nat.le_refl _) _)
  have HK0 : Hid (((w.alloc (.cells (tbA t a) 43)).alloc (.cells #[.int .i64 0, .int .i64 0, .int .u32 0] 62)).heap[w.heap.size + 1]? = some (.cells #[.int .i64 0, .int .i64 0, .int .u32 0] 62 (0, 0))) := new_row (w.alloc (.cells (tbA t a) 43)) #[.int .i64 0, .int .i64 0, .int .u32 0] 62 _ (by simp)
  have hnp : 0 < n := by rw [← hn, ← hws]; exact Sr.texts_pos 32 s
  have hnb : n ≤ 1048577 := by
    rw [← hn, ← hws]
    have h1 := Sp.cut_many 32 s.data.toList
    have h2 : s.data.toList.length = s.size := rfl
    have h3 := hls.2.2.2
    unfold Sp.texts
    rw [List.length_map]
    omega
  have HSZ : Hid (∀ j, (ws.getD j ⟨#[]⟩).size ≤ 1048576) := fun j => by
    by_cases hj : j < ws.length
    · have h1 := Sr.texts_short 32 s (ws.getD j ⟨#[]⟩) (by rw [hws]; exact getD_in ws _ j hj)
      have := hls.2.2.2
      omega
    · rw [List.getD_eq_getElem?_getD, List.getElem?_eq_none (by omega)]
      decide
  have HSL : Hid (Calls Tryz.prog 72 #[.string s] ((w.alloc (.cells (tbA t a) 43)).alloc (.cells #[.int .i64 0, .int .i64 0, .int .u32 0] 62)) fun e w' => ∃ b off cap, e = .returned (.slice (some ⟨b, off, none⟩) n cap) ∧ n ≤ cap ∧ (∀ j, j < n → w'.cell? ⟨b, off + j, none⟩ = some (.string (ws.getD j ⟨#[]⟩))) ∧ Below ((w.alloc (.cells (tbA t a) 43)).alloc (.cells #[.int .i64 0, .int .i64 0, .int .u32 0] 62)).heap.size ((w.alloc (.cells (tbA t a) 43)).alloc (.cells #[.int .i64 0, .int .i64 0, .int .u32 0] 62)) w') := (spec_split s _ hls.2.2.2).mono fun e w' h => by
    obtain ⟨A, cap, h1, h2, h3, h4⟩ := h
    rw [hws] at h1 h2 h3
    rw [hn] at h1 h2
    obtain ⟨b, off, h5, h6, h7⟩ := flds_at h3 0 (by omega)
    subst h5
    exact ⟨b, off, cap, h1, h2, fun j hj => h7 j (by omega), h4⟩
  have HLS : Hid (∀ X, Below w.heap.size w X → PSegL 0 X a.pa a.pn t.ps a.Y) := fun X hX => hls.1.below hX
  have HL : Hid (t.ps.length = a.pn ∧ a.pn ≤ 1048576) := ⟨hls.2.1, hls.2.2.1⟩
  clear hls hws hn
  subst h2
  go_enter Tryz.func44, Tryz.ntmps44
  go_wp2_with fail
  refine Calls.mono HSL.out ?_
  rintro e w1 ⟨b, off, cap, rfl, hcap, hcl, hb1⟩
  have HN1 : Hid ((w1.alloc (.cells #[.int .i64 0, .int .i64 0, .int .u32 0] 62)).heap[w1.heap.size]? = some (.cells #[.int .i64 0, .int .i64 0, .int .u32 0] 62 (0, 0))) := new_row w1 _ _ _ rfl
  have hba : Below w1.heap.size w1 ((w1.alloc (.cells #[.int .i64 0, .int .i64 0, .int .u32 0] 62)).setRow w1.heap.size #[.int .i64 0, .int .i64 0, .int .u32 0]) := below_setRow ((Below.refl _ _).alloc (Nat.le_refl _) _) (Nat.le_refl _) _
  have hbt : Below ((w.alloc (.cells (tbA t a) 43)).alloc (.cells #[.int .i64 0, .int .i64 0, .int .u32 0] 62)).heap.size ((w.alloc (.cells (tbA t a) 43)).alloc (.cells #[.int .i64 0, .int .i64 0, .int .u32 0] 62)) ((w1.alloc (.cells #[.int .i64 0, .int .i64 0, .int .u32 0] 62)).setRow w1.heap.size #[.int .i64 0, .int .i64 0, .int .u32 0]) := hb1.trans (hba.mono hb1.size)
  have HB1 : Hid (Below w.heap.size w ((w1.alloc (.cells #[.int .i64 0, .int .i64 0, .int .u32 0] 62)).setRow w1.heap.size #[.int .i64 0, .int .i64 0, .int .u32 0])) := HB0.out.trans (hbt.mono HB0.out.size)
  have HX1 : Hid (TBx ((w1.alloc (.cells #[.int .i64 0, .int .i64 0, .int .u32 0] 62)).setRow w1.heap.size #[.int .i64 0, .int .i64 0, .int .u32 0]) w.heap.size t a) := HX0.out.below hbt
  have HR2 : Hid (((w1.alloc (.cells #[.int .i64 0, .int .i64 0, .int .u32 0] 62)).setRow w1.heap.size #[.int .i64 0, .int .i64 0, .int .u32 0]).heap[w.heap.size + 1]? = some (.cells #[.int .i64 0, .int .i64 0, .int .u32 0] 62 (0, 0))) := row_below HK0.out hbt
  have HRB : Hid (((w1.alloc (.cells #[.int .i64 0, .int .i64 0, .int .u32 0] 62)).setRow w1.heap.size #[.int .i64 0, .int .i64 0, .int .u32 0]).heap[w1.heap.size]? = some (.cells #[.int .i64 0, .int .i64 0, .int .u32 0] 62 (0, 0))) := setRow_heap _ _ _ _ _ _ HN1.out
  have z0 : ((w1.alloc (.cells #[.int .i64 0, .int .i64 0, .int .u32 0] 62)).setRow w1.heap.size #[.int .i64 0, .int .i64 0, .int .u32 0]).cell? ⟨w1.heap.size, 0, none⟩ = some (.int .i64 0) := row_c HRB.out 0 _ rfl
  have z1 : ((w1.alloc (.cells #[.int .i64 0, .int .i64 0, .int .u32 0] 62)).setRow w1.heap.size #[.int .i64 0, .int .i64 0, .int .u32 0]).cell? ⟨w1.heap.size, 1, none⟩ = some (.int .i64 0) := row_c HRB.out 1 _ rfl
  have z2 : ((w1.alloc (.cells #[.int .i64 0, .int .i64 0, .int .u32 0] 62)).setRow w1.heap.size #[.int .i64 0, .int .i64 0, .int .u32 0]).cell? ⟨w1.heap.size, 2, none⟩ = some (.int .u32 0) := row_c HRB.out 2 _ rfl
  have hv0 : ((w1.alloc (.cells #[.int .i64 0, .int .i64 0, .int .u32 0] 62)).setRow w1.heap.size #[.int .i64 0, .int .i64 0, .int .u32 0]).cell? ⟨b, off, none⟩ = some (.string (ws.getD 0 ⟨#[]⟩)) := by
    have := cell_kept hba (hcl 0 (by omega))
    simpa using this
  have hv1 : ((w1.alloc (.cells #[.int .i64 0, .int .i64 0, .int .u32 0] 62)).setRow w1.heap.size #[.int .i64 0, .int .i64 0, .int .u32 0]).cell? ⟨b, off + 1, none⟩ = some (.string (ws.getD 1 ⟨#[]⟩)) := cell_kept hba (hcl 1 (by omega))
  have hsz := HSZ.out
  clear hb1 hba hbt HB0 HX0 HK0 HSL hcl
  rw [hk0] at hv0
  have trun := ne_run res_run
  have tinp := ne_inp res_inp
  have tres := eq_res
  have HNM : Hid (∀ Y : Gr ((w1.alloc (.cells #[.int .i64 0, .int .i64 0, .int .u32 0] 62)).setRow w1.heap.size #[.int .i64 0, .int .i64 0, .int .u32 0]), Calls Tryz.prog 74 #[tbV t a, .string (ws.getD 1 ⟨#[]⟩)] Y.w fun e w' => e = .returned (.int .i64 r) ∧ Below Y.w.heap.size Y.w w') := fun Y => by rw [← hr]; exact spec_nm t a _ _ (HLS.out _ (HB1.out.trans (Y.h.mono HB1.out.size))) HL.out.1 HL.out.2
  generalize ws.getD 1 ⟨#[]⟩ = x1 at HNM hv1
  have HXX : Hid (∀ w', (∃ X : Gr ((w1.alloc (.cells #[.int .i64 0, .int .i64 0, .int .u32 0] 62)).setRow w1.heap.size #[.int .i64 0, .int .i64 0, .int .u32 0]), w' = X.w) → w'.heap[w.heap.size]? = some (.cells (tbA t a) 43 (0, 0))) := fun w' hX => by
    obtain ⟨X, rfl⟩ := hX
    exact HX1.out.below X.h
  have HRG : Hid (∀ X : Gr ((w1.alloc (.cells #[.int .i64 0, .int .i64 0, .int .u32 0] 62)).setRow w1.heap.size #[.int .i64 0, .int .i64 0, .int .u32 0]), X.w.heap[w.heap.size + 1]? = some (.cells #[.int .i64 0, .int .i64 0, .int .u32 0] 62 (0, 0)) ∧ X.w.heap[w1.heap.size]? = some (.cells #[.int .i64 0, .int .i64 0, .int .u32 0] 62 (0, 0)) ∧ Below w.heap.size w X.w) := fun X => ⟨row_below HR2.out X.h, row_below HRB.out X.h, HB1.out.trans (X.h.mono HB1.out.size)⟩
  clear z0 z1 z2 hsz
  go_wp2_with (first | (refine wpList_store_row rfl 62 (.tmp 7) (.tmp 17) rfl w1.heap.size #[.int .i64 0, .int .i64 0, .int .u32 0] rfl rfl 62 #[.int .i64 0, .int .i64 0, .int .u32 0] HN1.out (by kernel_rfl) rfl (by simp [Value.oneCell']) ?_) | fail)
  replace hv1 := fun X => gr_cell hv1 X
  have hgr := gr_some ((w1.alloc (.cells #[.int .i64 0, .int .i64 0, .int .u32 0] 62)).setRow w1.heap.size #[.int .i64 0, .int .i64 0, .int .u32 0])
  refine region_alike (by kernel_rfl) (by kernel_rfl) ?_
  repeat (first | (refine wpQuiet_load_row rfl 43 (.tmp 2) rfl w.heap.size rfl 43 (tbA t a) (0, 0) _ HXX.out Tryz.underlying43 rfl (by kernel_rfl) ?_; simp only [Act.put, List.setIfInBounds_toArray, List.set_cons_zero, List.set_cons_succ]) | go_big_quiet_step (first | (go_at_call 74; exact gr_call (HNM.out _))))
  refine wpQuiet_nil ?_
  intro _ hw'
  obtain ⟨X1, rfl⟩ := hw'
  have hr3 := HRG.out X1
  clear HRG HXX HNM hv1 hv0 HR2 HRB HB1 HX1 hgr HN1
  generalize X1.w = V2 at hr3 ⊢
  have HR2 : Hid (V2.heap[w.heap.size + 1]? = some (.cells #[.int .i64 0, .int .i64 0, .int .u32 0] 62 (0, 0))) := hr3.1
  have z0 : V2.cell? ⟨w1.heap.size, 0, none⟩ = some (.int .i64 0) := row_c hr3.2.1 0 _ rfl
  have z1 : V2.cell? ⟨w1.heap.size, 1, none⟩ = some (.int .i64 0) := row_c hr3.2.1 1 _ rfl
  have z2 : V2.cell? ⟨w1.heap.size, 2, none⟩ = some (.int .u32 0) := row_c hr3.2.1 2 _ rfl
  have HB1 : Hid (Below w.heap.size w V2) := hr3.2.2
  have HX1 := trivial
  clear hr3
  have HRF : Hid ((V2.setRow (w.heap.size + 1) #[.int .i64 0, .int .i64 0, .int .u32 0]).heap[w.heap.size + 1]? = some (.cells #[.int .i64 0, .int .i64 0, .int .u32 0] 62 (0, 0))) := setRow_heap _ _ _ _ _ _ HR2.out
  have n0 : (V2.setRow (w.heap.size + 1) #[.int .i64 0, .int .i64 0, .int .u32 0]).cell? ⟨w.heap.size + 1, 0, none⟩ = some (.int .i64 0) := row_c HRF.out 0 _ rfl
  have n1 : (V2.setRow (w.heap.size + 1) #[.int .i64 0, .int .i64 0, .int .u32 0]).cell? ⟨w.heap.size + 1, 1, none⟩ = some (.int .i64 0) := row_c HRF.out 1 _ rfl
  have n2 : (V2.setRow (w.heap.size + 1) #[.int .i64 0, .int .i64 0, .int .u32 0]).cell? ⟨w.heap.size + 1, 2, none⟩ = some (.int .u32 0) := row_c HRF.out 2 _ rfl
  have HBF : Hid (Below w.heap.size w (V2.setRow (w.heap.size + 1) #[.int .i64 0, .int .i64 0, .int .u32 0])) := below_setRow HB1.out (by omega) _
  clear HB1 HX1
  go_wp2_with (first | (refine wpList_store_row rfl 62 (.tmp 4) (.tmp 104) rfl (w.heap.size + 1) #[.int .i64 0, .int .i64 0, .int .u32 0] rfl rfl 62 #[.int .i64 0, .int .i64 0, .int .u32 0] HR2.out (by kernel_rfl) rfl (by simp [Value.oneCell']) ?_) | fail)
  exact bodyPost_ret (v := .tuple #[.agg #[.int .i64 0, .int .i64 0, .int .u32 0], .int .i64 3]) (by simp [results, Tryz.results44, go_sem, n0, n1, n2]) rfl ⟨rfl, HBF.out⟩
set_option maxRecDepth 40000 in
set_option maxHeartbeats 8000000 in
theorem sl_res1 (t : Tb) (a : Ad) (s : ByteArray) (n : Nat) (ws : List ByteArray) (w : World) (hls : LS w t a s) (hws : Sp.texts 32 s = ws) (hn : ws.length = n) (hk0 : ws.getD 0 ⟨#[]⟩ = Sr.kres) (h2 : n = 2) (r : Int) (hr : Sr.nmV t (ws.getD 1 ⟨#[]⟩) = r) (hneg : ¬ r < 0) :
    Calls Tryz.prog 44 #[tbV t a, .string s] w fun e w' => e = .returned (.tuple #[.agg #[.int .i64 2, .int .i64 r, .int .u32 0], .int .i64 0]) ∧ Below w.heap.size w w' := by
  have HB0 : Hid (Below w.heap.size w ((w.alloc (.cells (tbA t a) 43)).alloc (.cells #[.int .i64 0, .int .i64 0, .int .u32 0] 62))) := ((Below.refl _ _).alloc (Nat.le_refl _) _).alloc (by simp) _
  have HX0 : Hid (TBx ((w.alloc (.cells (tbA t a) 43)).alloc (.cells #[.int .i64 0, .int .i64 0, .int .u32 0] 62)) w.heap.size t a) := (TBx.new w t a _ rfl).below ((Below.refl _ _).alloc (Nat.le_refl _) _)
  have HK0 : Hid (((w.alloc (.cells (tbA t a) 43)).alloc (.cells #[.int .i64 0, .int .i64 0, .int .u32 0] 62)).heap[w.heap.size + 1]? = some (.cells #[.int .i64 0, .int .i64 0, .int .u32 0] 62 (0, 0))) := new_row (w.alloc (.cells (tbA t a) 43)) #[.int .i64 0, .int .i64 0, .int .u32 0] 62 _ (by simp)
  have hnp : 0 < n := by rw [← hn, ← hws]; exact Sr.texts_pos 32 s
  have hnb : n ≤ 1048577 := by
    rw [← hn, ← hws]
    have h1 := Sp.cut_many 32 s.data.toList
    have h2 : s.data.toList.length = s.size := rfl
    have h3 := hls.2.2.2
    unfold Sp.texts
    rw [List.length_map]
    omega
  have HSZ : Hid (∀ j, (ws.getD j ⟨#[]⟩).size ≤ 1048576) := fun j => by
    by_cases hj : j < ws.length
    · have h1 := Sr.texts_short 32 s (ws.getD j ⟨#[]⟩) (by rw [hws]; exact getD_in ws _ j hj)
      have := hls.2.2.2
      omega
    · rw [List.getD_eq_getElem?_getD, List.getElem?_eq_none (by omega)]
      decide
  have HSL : Hid (Calls Tryz.prog 72 #[.string s] ((w.alloc (.cells (tbA t a) 43)).alloc (.cells #[.int .i64 0, .int .i64 0, .int .u32 0] 62)) fun e w' => ∃ b off cap, e = .returned (.slice (some ⟨b, off, none⟩) n cap) ∧ n ≤ cap ∧ (∀ j, j < n → w'.cell? ⟨b, off + j, none⟩ = some (.string (ws.getD j ⟨#[]⟩))) ∧ Below ((w.alloc (.cells (tbA t a) 43)).alloc (.cells #[.int .i64 0, .int .i64 0, .int .u32 0] 62)).heap.size ((w.alloc (.cells (tbA t a) 43)).alloc (.cells #[.int .i64 0, .int .i64 0, .int .u32 0] 62)) w') := (spec_split s _ hls.2.2.2).mono fun e w' h => by
    obtain ⟨A, cap, h1, h2, h3, h4⟩ := h
    rw [hws] at h1 h2 h3
    rw [hn] at h1 h2
    obtain ⟨b, off, h5, h6, h7⟩ := flds_at h3 0 (by omega)
    subst h5
    exact ⟨b, off, cap, h1, h2, fun j hj => h7 j (by omega), h4⟩
  have HLS : Hid (∀ X, Below w.heap.size w X → PSegL 0 X a.pa a.pn t.ps a.Y) := fun X hX => hls.1.below hX
  have HL : Hid (t.ps.length = a.pn ∧ a.pn ≤ 1048576) := ⟨hls.2.1, hls.2.2.1⟩
  clear hls hws hn
  subst h2
  go_enter Tryz.func44, Tryz.ntmps44
  go_wp2_with fail
  refine Calls.mono HSL.out ?_
  rintro e w1 ⟨b, off, cap, rfl, hcap, hcl, hb1⟩
  have HN1 : Hid ((w1.alloc (.cells #[.int .i64 0, .int .i64 0, .int .u32 0] 62)).heap[w1.heap.size]? = some (.cells #[.int .i64 0, .int .i64 0, .int .u32 0] 62 (0, 0))) := new_row w1 _ _ _ rfl
  have hba : Below w1.heap.size w1 ((w1.alloc (.cells #[.int .i64 0, .int .i64 0, .int .u32 0] 62)).setRow w1.heap.size #[.int .i64 0, .int .i64 0, .int .u32 0]) := below_setRow ((Below.refl _ _).alloc (Nat.le_refl _) _) (Nat.le_refl _) _
  have hbt : Below ((w.alloc (.cells (tbA t a) 43)).alloc (.cells #[.int .i64 0, .int .i64 0, .int .u32 0] 62)).heap.size ((w.alloc (.cells (tbA t a) 43)).alloc (.cells #[.int .i64 0, .int .i64 0, .int .u32 0] 62)) ((w1.alloc (.cells #[.int .i64 0, .int .i64 0, .int .u32 0] 62)).setRow w1.heap.size #[.int .i64 0, .int .i64 0, .int .u32 0]) := hb1.trans (hba.mono hb1.size)
  have HB1 : Hid (Below w.heap.size w ((w1.alloc (.cells #[.int .i64 0, .int .i64 0, .int .u32 0] 62)).setRow w1.heap.size #[.int .i64 0, .int .i64 0, .int .u32 0])) := HB0.out.trans (hbt.mono HB0.out.size)
  have HX1 : Hid (TBx ((w1.alloc (.cells #[.int .i64 0, .int .i64 0, .int .u32 0] 62)).setRow w1.heap.size #[.int .i64 0, .int .i64 0, .int .u32 0]) w.heap.size t a) := HX0.out.below hbt
  have HR2 : Hid (((w1.alloc (.cells #[.int .i64 0, .int .i64 0, .int .u32 0] 62)).setRow w1.heap.size #[.int .i64 0, .int .i64 0, .int .u32 0]).heap[w.heap.size + 1]? = some (.cells #[.int .i64 0, .int .i64 0, .int .u32 0] 62 (0, 0))) := row_below HK0.out hbt
  have HRB : Hid (((w1.alloc (.cells #[.int .i64 0, .int .i64 0, .int .u32 0] 62)).setRow w1.heap.size #[.int .i64 0, .int .i64 0, .int .u32 0]).heap[w1.heap.size]? = some (.cells #[.int .i64 0, .int .i64 0, .int .u32 0] 62 (0, 0))) := setRow_heap _ _ _ _ _ _ HN1.out
  have z0 : ((w1.alloc (.cells #[.int .i64 0, .int .i64 0, .int .u32 0] 62)).setRow w1.heap.size #[.int .i64 0, .int .i64 0, .int .u32 0]).cell? ⟨w1.heap.size, 0, none⟩ = some (.int .i64 0) := row_c HRB.out 0 _ rfl
  have z1 : ((w1.alloc (.cells #[.int .i64 0, .int .i64 0, .int .u32 0] 62)).setRow w1.heap.size #[.int .i64 0, .int .i64 0, .int .u32 0]).cell? ⟨w1.heap.size, 1, none⟩ = some (.int .i64 0) := row_c HRB.out 1 _ rfl
  have z2 : ((w1.alloc (.cells #[.int .i64 0, .int .i64 0, .int .u32 0] 62)).setRow w1.heap.size #[.int .i64 0, .int .i64 0, .int .u32 0]).cell? ⟨w1.heap.size, 2, none⟩ = some (.int .u32 0) := row_c HRB.out 2 _ rfl
  have hv0 : ((w1.alloc (.cells #[.int .i64 0, .int .i64 0, .int .u32 0] 62)).setRow w1.heap.size #[.int .i64 0, .int .i64 0, .int .u32 0]).cell? ⟨b, off, none⟩ = some (.string (ws.getD 0 ⟨#[]⟩)) := by
    have := cell_kept hba (hcl 0 (by omega))
    simpa using this
  have hv1 : ((w1.alloc (.cells #[.int .i64 0, .int .i64 0, .int .u32 0] 62)).setRow w1.heap.size #[.int .i64 0, .int .i64 0, .int .u32 0]).cell? ⟨b, off + 1, none⟩ = some (.string (ws.getD 1 ⟨#[]⟩)) := cell_kept hba (hcl 1 (by omega))
  have hsz := HSZ.out
  clear hb1 hba hbt HB0 HX0 HK0 HSL hcl
  rw [hk0] at hv0
  have trun := ne_run res_run
  have tinp := ne_inp res_inp
  have tres := eq_res
  have HNM : Hid (∀ Y : Gr ((w1.alloc (.cells #[.int .i64 0, .int .i64 0, .int .u32 0] 62)).setRow w1.heap.size #[.int .i64 0, .int .i64 0, .int .u32 0]), Calls Tryz.prog 74 #[tbV t a, .string (ws.getD 1 ⟨#[]⟩)] Y.w fun e w' => e = .returned (.int .i64 r) ∧ Below Y.w.heap.size Y.w w') := fun Y => by rw [← hr]; exact spec_nm t a _ _ (HLS.out _ (HB1.out.trans (Y.h.mono HB1.out.size))) HL.out.1 HL.out.2
  generalize ws.getD 1 ⟨#[]⟩ = x1 at HNM hv1
  have HXX : Hid (∀ w', (∃ X : Gr ((w1.alloc (.cells #[.int .i64 0, .int .i64 0, .int .u32 0] 62)).setRow w1.heap.size #[.int .i64 0, .int .i64 0, .int .u32 0]), w' = X.w) → w'.heap[w.heap.size]? = some (.cells (tbA t a) 43 (0, 0))) := fun w' hX => by
    obtain ⟨X, rfl⟩ := hX
    exact HX1.out.below X.h
  have HRG : Hid (∀ X : Gr ((w1.alloc (.cells #[.int .i64 0, .int .i64 0, .int .u32 0] 62)).setRow w1.heap.size #[.int .i64 0, .int .i64 0, .int .u32 0]), X.w.heap[w.heap.size + 1]? = some (.cells #[.int .i64 0, .int .i64 0, .int .u32 0] 62 (0, 0)) ∧ X.w.heap[w1.heap.size]? = some (.cells #[.int .i64 0, .int .i64 0, .int .u32 0] 62 (0, 0)) ∧ Below w.heap.size w X.w) := fun X => ⟨row_below HR2.out X.h, row_below HRB.out X.h, HB1.out.trans (X.h.mono HB1.out.size)⟩
  clear z0 z1 z2 hsz
  go_wp2_with (first | (refine wpList_store_row rfl 62 (.tmp 7) (.tmp 17) rfl w1.heap.size #[.int .i64 0, .int .i64 0, .int .u32 0] rfl rfl 62 #[.int .i64 0, .int .i64 0, .int .u32 0] HN1.out (by kernel_rfl) rfl (by simp [Value.oneCell']) ?_) | fail)
  replace hv1 := fun X => gr_cell hv1 X
  have hgr := gr_some ((w1.alloc (.cells #[.int .i64 0, .int .i64 0, .int .u32 0] 62)).setRow w1.heap.size #[.int .i64 0, .int .i64 0, .int .u32 0])
  refine region_alike (by kernel_rfl) (by kernel_rfl) ?_
  repeat (first | (refine wpQuiet_load_row rfl 43 (.tmp 2) rfl w.heap.size rfl 43 (tbA t a) (0, 0) _ HXX.out Tryz.underlying43 rfl (by kernel_rfl) ?_; simp only [Act.put, List.setIfInBounds_toArray, List.set_cons_zero, List.set_cons_succ]) | go_big_quiet_step (first | (go_at_call 74; exact gr_call (HNM.out _))))
  refine wpQuiet_nil ?_
  intro _ hw'
  obtain ⟨X1, rfl⟩ := hw'
  have hr3 := HRG.out X1
  clear HRG HXX HNM hv1 hv0 HR2 HRB HB1 HX1 hgr HN1
  generalize X1.w = V2 at hr3 ⊢
  have HR2 : Hid (V2.heap[w.heap.size + 1]? = some (.cells #[.int .i64 0, .int .i64 0, .int .u32 0] 62 (0, 0))) := hr3.1
  have z0 : V2.cell? ⟨w1.heap.size, 0, none⟩ = some (.int .i64 0) := row_c hr3.2.1 0 _ rfl
  have z1 : V2.cell? ⟨w1.heap.size, 1, none⟩ = some (.int .i64 0) := row_c hr3.2.1 1 _ rfl
  have z2 : V2.cell? ⟨w1.heap.size, 2, none⟩ = some (.int .u32 0) := row_c hr3.2.1 2 _ rfl
  have HB1 : Hid (Below w.heap.size w V2) := hr3.2.2
  have HX1 := trivial
  clear hr3
  have HRF : Hid ((V2.setRow (w.heap.size + 1) #[.int .i64 2, .int .i64 r, .int .u32 0]).heap[w.heap.size + 1]? = some (.cells #[.int .i64 2, .int .i64 r, .int .u32 0] 62 (0, 0))) := setRow_heap _ _ _ _ _ _ HR2.out
  have n0 : (V2.setRow (w.heap.size + 1) #[.int .i64 2, .int .i64 r, .int .u32 0]).cell? ⟨w.heap.size + 1, 0, none⟩ = some (.int .i64 2) := row_c HRF.out 0 _ rfl
  have n1 : (V2.setRow (w.heap.size + 1) #[.int .i64 2, .int .i64 r, .int .u32 0]).cell? ⟨w.heap.size + 1, 1, none⟩ = some (.int .i64 r) := row_c HRF.out 1 _ rfl
  have n2 : (V2.setRow (w.heap.size + 1) #[.int .i64 2, .int .i64 r, .int .u32 0]).cell? ⟨w.heap.size + 1, 2, none⟩ = some (.int .u32 0) := row_c HRF.out 2 _ rfl
  have HBF : Hid (Below w.heap.size w (V2.setRow (w.heap.size + 1) #[.int .i64 2, .int .i64 r, .int .u32 0])) := below_setRow HB1.out (by omega) _
  clear HB1 HX1
  go_wp2_with (first | (refine wpList_store_row rfl 62 (.tmp 4) (.tmp 106) rfl (w.heap.size + 1) #[.int .i64 2, .int .i64 r, .int .u32 0] rfl rfl 62 #[.int .i64 0, .int .i64 0, .int .u32 0] HR2.out (by kernel_rfl) rfl (by simp [Value.oneCell']) ?_) | fail)
  exact bodyPost_ret (v := .tuple #[.agg #[.int .i64 2, .int .i64 r, .int .u32 0], .int .i64 0]) (by simp [results, Tryz.results44, go_sem, n0, n1, n2]) rfl ⟨rfl, HBF.out⟩
set_option maxRecDepth 40000 in
set_option maxHeartbeats 8000000 in
theorem sl_non0 (t : Tb) (a : Ad) (s : ByteArray) (n : Nat) (ws : List ByteArray) (w : World) (hls : LS w t a s) (hws : Sp.texts 32 s = ws) (hn : ws.length = n)  (h0 : ¬ ws.getD 0 ⟨#[]⟩ = Sr.krun) (h1 : ¬ ws.getD 0 ⟨#[]⟩ = Sr.kinp) (h2 : ¬ ws.getD 0 ⟨#[]⟩ = Sr.kres) :
    Calls Tryz.prog 44 #[tbV t a, .string s] w fun e w' => e = .returned (.tuple #[.agg #[.int .i64 0, .int .i64 0, .int .u32 0], .int .i64 2]) ∧ Below w.heap.size w w' := by
  have HB0 : Hid (Below w.heap.size w ((w.alloc (.cells (tbA t a) 43)).alloc (.cells #[.int .i64 0, .int .i64 0, .int .u32 0] 62))) := ((Below.refl _ _).alloc (Nat.le_refl _) _).alloc (by simp) _
  have HX0 : Hid (TBx ((w.alloc (.cells (tbA t a) 43)).alloc (.cells #[.int .i64 0, .int .i64 0, .int .u32 0] 62)) w.heap.size t a) := (TBx.new w t a _ rfl).below ((Below.refl _ _).alloc (Nat.le_refl _) _)
  have HK0 : Hid (((w.alloc (.cells (tbA t a) 43)).alloc (.cells #[.int .i64 0, .int .i64 0, .int .u32 0] 62)).heap[w.heap.size + 1]? = some (.cells #[.int .i64 0, .int .i64 0, .int .u32 0] 62 (0, 0))) := new_row (w.alloc (.cells (tbA t a) 43)) #[.int .i64 0, .int .i64 0, .int .u32 0] 62 _ (by simp)
  have hnp : 0 < n := by rw [← hn, ← hws]; exact Sr.texts_pos 32 s
  have hnb : n ≤ 1048577 := by
    rw [← hn, ← hws]
    have h1 := Sp.cut_many 32 s.data.toList
    have h2 : s.data.toList.length = s.size := rfl
    have h3 := hls.2.2.2
    unfold Sp.texts
    rw [List.length_map]
    omega
  have HSZ : Hid (∀ j, (ws.getD j ⟨#[]⟩).size ≤ 1048576) := fun j => by
    by_cases hj : j < ws.length
    · have h1 := Sr.texts_short 32 s (ws.getD j ⟨#[]⟩) (by rw [hws]; exact getD_in ws _ j hj)
      have := hls.2.2.2
      omega
    · rw [List.getD_eq_getElem?_getD, List.getElem?_eq_none (by omega)]
      decide
  have HSL : Hid (Calls Tryz.prog 72 #[.string s] ((w.alloc (.cells (tbA t a) 43)).alloc (.cells #[.int .i64 0, .int .i64 0, .int .u32 0] 62)) fun e w' => ∃ b off cap, e = .returned (.slice (some ⟨b, off, none⟩) n cap) ∧ n ≤ cap ∧ (∀ j, j < n → w'.cell? ⟨b, off + j, none⟩ = some (.string (ws.getD j ⟨#[]⟩))) ∧ Below ((w.alloc (.cells (tbA t a) 43)).alloc (.cells #[.int .i64 0, .int .i64 0, .int .u32 0] 62)).heap.size ((w.alloc (.cells (tbA t a) 43)).alloc (.cells #[.int .i64 0, .int .i64 0, .int .u32 0] 62)) w') := (spec_split s _ hls.2.2.2).mono fun e w' h => by
    obtain ⟨A, cap, h1, h2, h3, h4⟩ := h
    rw [hws] at h1 h2 h3
    rw [hn] at h1 h2
    obtain ⟨b, off, h5, h6, h7⟩ := flds_at h3 0 (by omega)
    subst h5
    exact ⟨b, off, cap, h1, h2, fun j hj => h7 j (by omega), h4⟩
  have HLS : Hid (∀ X, Below w.heap.size w X → PSegL 0 X a.pa a.pn t.ps a.Y) := fun X hX => hls.1.below hX
  have HL : Hid (t.ps.length = a.pn ∧ a.pn ≤ 1048576) := ⟨hls.2.1, hls.2.2.1⟩
  clear hls hws hn
  go_enter Tryz.func44, Tryz.ntmps44
  go_wp2_with fail
  refine Calls.mono HSL.out ?_
  rintro e w1 ⟨b, off, cap, rfl, hcap, hcl, hb1⟩
  have HN1 : Hid ((w1.alloc (.cells #[.int .i64 0, .int .i64 0, .int .u32 0] 62)).heap[w1.heap.size]? = some (.cells #[.int .i64 0, .int .i64 0, .int .u32 0] 62 (0, 0))) := new_row w1 _ _ _ rfl
  have hba : Below w1.heap.size w1 ((w1.alloc (.cells #[.int .i64 0, .int .i64 0, .int .u32 0] 62)).setRow w1.heap.size #[.int .i64 0, .int .i64 0, .int .u32 0]) := below_setRow ((Below.refl _ _).alloc (Nat.le_refl _) _) (Nat.le_refl _) _
  have hbt : Below ((w.alloc (.cells (tbA t a) 43)).alloc (.cells #[.int .i64 0, .int .i64 0, .int .u32 0] 62)).heap.size ((w.alloc (.cells (tbA t a) 43)).alloc (.cells #[.int .i64 0, .int .i64 0, .int .u32 0] 62)) ((w1.alloc (.cells #[.int .i64 0, .int .i64 0, .int .u32 0] 62)).setRow w1.heap.size #[.int .i64 0, .int .i64 0, .int .u32 0]) := hb1.trans (hba.mono hb1.size)
  have HB1 : Hid (Below w.heap.size w ((w1.alloc (.cells #[.int .i64 0, .int .i64 0, .int .u32 0] 62)).setRow w1.heap.size #[.int .i64 0, .int .i64 0, .int .u32 0])) := HB0.out.trans (hbt.mono HB0.out.size)
  have HX1 : Hid (TBx ((w1.alloc (.cells #[.int .i64 0, .int .i64 0, .int .u32 0] 62)).setRow w1.heap.size #[.int .i64 0, .int .i64 0, .int .u32 0]) w.heap.size t a) := HX0.out.below hbt
  have HR2 : Hid (((w1.alloc (.cells #[.int .i64 0, .int .i64 0, .int .u32 0] 62)).setRow w1.heap.size #[.int .i64 0, .int .i64 0, .int .u32 0]).heap[w.heap.size + 1]? = some (.cells #[.int .i64 0, .int .i64 0, .int .u32 0] 62 (0, 0))) := row_below HK0.out hbt
  have HRB : Hid (((w1.alloc (.cells #[.int .i64 0, .int .i64 0, .int .u32 0] 62)).setRow w1.heap.size #[.int .i64 0, .int .i64 0, .int .u32 0]).heap[w1.heap.size]? = some (.cells #[.int .i64 0, .int .i64 0, .int .u32 0] 62 (0, 0))) := setRow_heap _ _ _ _ _ _ HN1.out
  have z0 : ((w1.alloc (.cells #[.int .i64 0, .int .i64 0, .int .u32 0] 62)).setRow w1.heap.size #[.int .i64 0, .int .i64 0, .int .u32 0]).cell? ⟨w1.heap.size, 0, none⟩ = some (.int .i64 0) := row_c HRB.out 0 _ rfl
  have z1 : ((w1.alloc (.cells #[.int .i64 0, .int .i64 0, .int .u32 0] 62)).setRow w1.heap.size #[.int .i64 0, .int .i64 0, .int .u32 0]).cell? ⟨w1.heap.size, 1, none⟩ = some (.int .i64 0) := row_c HRB.out 1 _ rfl
  have z2 : ((w1.alloc (.cells #[.int .i64 0, .int .i64 0, .int .u32 0] 62)).setRow w1.heap.size #[.int .i64 0, .int .i64 0, .int .u32 0]).cell? ⟨w1.heap.size, 2, none⟩ = some (.int .u32 0) := row_c HRB.out 2 _ rfl
  have hv0 : ((w1.alloc (.cells #[.int .i64 0, .int .i64 0, .int .u32 0] 62)).setRow w1.heap.size #[.int .i64 0, .int .i64 0, .int .u32 0]).cell? ⟨b, off, none⟩ = some (.string (ws.getD 0 ⟨#[]⟩)) := by
    have := cell_kept hba (hcl 0 (by omega))
    simpa using this
  have hsz := HSZ.out
  clear hb1 hba hbt HB0 HX0 HK0 HSL hcl
  have trun := ne_run h0
  have tinp := ne_inp h1
  have tres := ne_res h2
  generalize ws.getD 0 ⟨#[]⟩ = k0 at hv0 trun tinp tres
  clear h0 h1 h2
  have HRF : Hid ((((w1.alloc (.cells #[.int .i64 0, .int .i64 0, .int .u32 0] 62)).setRow w1.heap.size #[.int .i64 0, .int .i64 0, .int .u32 0]).setRow (w.heap.size + 1) #[.int .i64 0, .int .i64 0, .int .u32 0]).heap[w.heap.size + 1]? = some (.cells #[.int .i64 0, .int .i64 0, .int .u32 0] 62 (0, 0))) := setRow_heap _ _ _ _ _ _ HR2.out
  have n0 : (((w1.alloc (.cells #[.int .i64 0, .int .i64 0, .int .u32 0] 62)).setRow w1.heap.size #[.int .i64 0, .int .i64 0, .int .u32 0]).setRow (w.heap.size + 1) #[.int .i64 0, .int .i64 0, .int .u32 0]).cell? ⟨w.heap.size + 1, 0, none⟩ = some (.int .i64 0) := row_c HRF.out 0 _ rfl
  have n1 : (((w1.alloc (.cells #[.int .i64 0, .int .i64 0, .int .u32 0] 62)).setRow w1.heap.size #[.int .i64 0, .int .i64 0, .int .u32 0]).setRow (w.heap.size + 1) #[.int .i64 0, .int .i64 0, .int .u32 0]).cell? ⟨w.heap.size + 1, 1, none⟩ = some (.int .i64 0) := row_c HRF.out 1 _ rfl
  have n2 : (((w1.alloc (.cells #[.int .i64 0, .int .i64 0, .int .u32 0] 62)).setRow w1.heap.size #[.int .i64 0, .int .i64 0, .int .u32 0]).setRow (w.heap.size + 1) #[.int .i64 0, .int .i64 0, .int .u32 0]).cell? ⟨w.heap.size + 1, 2, none⟩ = some (.int .u32 0) := row_c HRF.out 2 _ rfl
  have HBF : Hid (Below w.heap.size w (((w1.alloc (.cells #[.int .i64 0, .int .i64 0, .int .u32 0] 62)).setRow w1.heap.size #[.int .i64 0, .int .i64 0, .int .u32 0]).setRow (w.heap.size + 1) #[.int .i64 0, .int .i64 0, .int .u32 0])) := below_setRow HB1.out (by omega) _
  clear HB1 HX1
  go_wp2_with (first | (refine wpList_store_row rfl 62 (.tmp 7) (.tmp 17) rfl w1.heap.size #[.int .i64 0, .int .i64 0, .int .u32 0] rfl rfl 62 #[.int .i64 0, .int .i64 0, .int .u32 0] HN1.out (by kernel_rfl) rfl (by simp [Value.oneCell']) ?_) | (refine wpList_store_row rfl 62 (.tmp 4) (.tmp 107) rfl (w.heap.size + 1) #[.int .i64 0, .int .i64 0, .int .u32 0] rfl rfl 62 #[.int .i64 0, .int .i64 0, .int .u32 0] HR2.out (by kernel_rfl) rfl (by simp [Value.oneCell']) ?_) | fail)
  exact bodyPost_ret (v := .tuple #[.agg #[.int .i64 0, .int .i64 0, .int .u32 0], .int .i64 2]) (by simp [results, Tryz.results44, go_sem, n0, n1, n2]) rfl ⟨rfl, HBF.out⟩
set_option maxRecDepth 40000 in
set_option maxHeartbeats 8000000 in
theorem sl_nonrun (t : Tb) (a : Ad) (s : ByteArray) (n : Nat) (ws : List ByteArray) (w : World) (hls : LS w t a s) (hws : Sp.texts 32 s = ws) (hn : ws.length = n) (hk0 : ws.getD 0 ⟨#[]⟩ = Sr.krun) (hne : ¬ n = 2) :
    Calls Tryz.prog 44 #[tbV t a, .string s] w fun e w' => e = .returned (.tuple #[.agg #[.int .i64 0, .int .i64 0, .int .u32 0], .int .i64 2]) ∧ Below w.heap.size w w' := by
  have HB0 : Hid (Below w.heap.size w ((w.alloc (.cells (tbA t a) 43)).alloc (.cells #[.int .i64 0, .int .i64 0, .int .u32 0] 62))) := ((Below.refl _ _).alloc (Nat.le_refl _) _).alloc (by simp) _
  have HX0 : Hid (TBx ((w.alloc (.cells (tbA t a) 43)).alloc (.cells #[.int .i64 0, .int .i64 0, .int .u32 0] 62)) w.heap.size t a) := (TBx.new w t a _ rfl).below ((Below.refl _ _).alloc (Nat.le_refl _) _)
  have HK0 : Hid (((w.alloc (.cells (tbA t a) 43)).alloc (.cells #[.int .i64 0, .int .i64 0, .int .u32 0] 62)).heap[w.heap.size + 1]? = some (.cells #[.int .i64 0, .int .i64 0, .int .u32 0] 62 (0, 0))) := new_row (w.alloc (.cells (tbA t a) 43)) #[.int .i64 0, .int .i64 0, .int .u32 0] 62 _ (by simp)
  have hnp : 0 < n := by rw [← hn, ← hws]; exact Sr.texts_pos 32 s
  have hnb : n ≤ 1048577 := by
    rw [← hn, ← hws]
    have h1 := Sp.cut_many 32 s.data.toList
    have h2 : s.data.toList.length = s.size := rfl
    have h3 := hls.2.2.2
    unfold Sp.texts
    rw [List.length_map]
    omega
  have HSZ : Hid (∀ j, (ws.getD j ⟨#[]⟩).size ≤ 1048576) := fun j => by
    by_cases hj : j < ws.length
    · have h1 := Sr.texts_short 32 s (ws.getD j ⟨#[]⟩) (by rw [hws]; exact getD_in ws _ j hj)
      have := hls.2.2.2
      omega
    · rw [List.getD_eq_getElem?_getD, List.getElem?_eq_none (by omega)]
      decide
  have HSL : Hid (Calls Tryz.prog 72 #[.string s] ((w.alloc (.cells (tbA t a) 43)).alloc (.cells #[.int .i64 0, .int .i64 0, .int .u32 0] 62)) fun e w' => ∃ b off cap, e = .returned (.slice (some ⟨b, off, none⟩) n cap) ∧ n ≤ cap ∧ (∀ j, j < n → w'.cell? ⟨b, off + j, none⟩ = some (.string (ws.getD j ⟨#[]⟩))) ∧ Below ((w.alloc (.cells (tbA t a) 43)).alloc (.cells #[.int .i64 0, .int .i64 0, .int .u32 0] 62)).heap.size ((w.alloc (.cells (tbA t a) 43)).alloc (.cells #[.int .i64 0, .int .i64 0, .int .u32 0] 62)) w') := (spec_split s _ hls.2.2.2).mono fun e w' h => by
    obtain ⟨A, cap, h1, h2, h3, h4⟩ := h
    rw [hws] at h1 h2 h3
    rw [hn] at h1 h2
    obtain ⟨b, off, h5, h6, h7⟩ := flds_at h3 0 (by omega)
    subst h5
    exact ⟨b, off, cap, h1, h2, fun j hj => h7 j (by omega), h4⟩
  have HLS : Hid (∀ X, Below w.heap.size w X → PSegL 0 X a.pa a.pn t.ps a.Y) := fun X hX => hls.1.below hX
  have HL : Hid (t.ps.length = a.pn ∧ a.pn ≤ 1048576) := ⟨hls.2.1, hls.2.2.1⟩
  clear hls hws hn
  go_enter Tryz.func44, Tryz.ntmps44
  go_wp2_with fail
  refine Calls.mono HSL.out ?_
  rintro e w1 ⟨b, off, cap, rfl, hcap, hcl, hb1⟩
  have HN1 : Hid ((w1.alloc (.cells #[.int .i64 0, .int .i64 0, .int .u32 0] 62)).heap[w1.heap.size]? = some (.cells #[.int .i64 0, .int .i64 0, .int .u32 0] 62 (0, 0))) := new_row w1 _ _ _ rfl
  have hba : Below w1.heap.size w1 ((w1.alloc (.cells #[.int .i64 0, .int .i64 0, .int .u32 0] 62)).setRow w1.heap.size #[.int .i64 0, .int .i64 0, .int .u32 0]) := below_setRow ((Below.refl _ _).alloc (Nat.le_refl _) _) (Nat.le_refl _) _
  have hbt : Below ((w.alloc (.cells (tbA t a) 43)).alloc (.cells #[.int .i64 0, .int .i64 0, .int .u32 0] 62)).heap.size ((w.alloc (.cells (tbA t a) 43)).alloc (.cells #[.int .i64 0, .int .i64 0, .int .u32 0] 62)) ((w1.alloc (.cells #[.int .i64 0, .int .i64 0, .int .u32 0] 62)).setRow w1.heap.size #[.int .i64 0, .int .i64 0, .int .u32 0]) := hb1.trans (hba.mono hb1.size)
  have HB1 : Hid (Below w.heap.size w ((w1.alloc (.cells #[.int .i64 0, .int .i64 0, .int .u32 0] 62)).setRow w1.heap.size #[.int .i64 0, .int .i64 0, .int .u32 0])) := HB0.out.trans (hbt.mono HB0.out.size)
  have HX1 : Hid (TBx ((w1.alloc (.cells #[.int .i64 0, .int .i64 0, .int .u32 0] 62)).setRow w1.heap.size #[.int .i64 0, .int .i64 0, .int .u32 0]) w.heap.size t a) := HX0.out.below hbt
  have HR2 : Hid (((w1.alloc (.cells #[.int .i64 0, .int .i64 0, .int .u32 0] 62)).setRow w1.heap.size #[.int .i64 0, .int .i64 0, .int .u32 0]).heap[w.heap.size + 1]? = some (.cells #[.int .i64 0, .int .i64 0, .int .u32 0] 62 (0, 0))) := row_below HK0.out hbt
  have HRB : Hid (((w1.alloc (.cells #[.int .i64 0, .int .i64 0, .int .u32 0] 62)).setRow w1.heap.size #[.int .i64 0, .int .i64 0, .int .u32 0]).heap[w1.heap.size]? = some (.cells #[.int .i64 0, .int .i64 0, .int .u32 0] 62 (0, 0))) := setRow_heap _ _ _ _ _ _ HN1.out
  have z0 : ((w1.alloc (.cells #[.int .i64 0, .int .i64 0, .int .u32 0] 62)).setRow w1.heap.size #[.int .i64 0, .int .i64 0, .int .u32 0]).cell? ⟨w1.heap.size, 0, none⟩ = some (.int .i64 0) := row_c HRB.out 0 _ rfl
  have z1 : ((w1.alloc (.cells #[.int .i64 0, .int .i64 0, .int .u32 0] 62)).setRow w1.heap.size #[.int .i64 0, .int .i64 0, .int .u32 0]).cell? ⟨w1.heap.size, 1, none⟩ = some (.int .i64 0) := row_c HRB.out 1 _ rfl
  have z2 : ((w1.alloc (.cells #[.int .i64 0, .int .i64 0, .int .u32 0] 62)).setRow w1.heap.size #[.int .i64 0, .int .i64 0, .int .u32 0]).cell? ⟨w1.heap.size, 2, none⟩ = some (.int .u32 0) := row_c HRB.out 2 _ rfl
  have hv0 : ((w1.alloc (.cells #[.int .i64 0, .int .i64 0, .int .u32 0] 62)).setRow w1.heap.size #[.int .i64 0, .int .i64 0, .int .u32 0]).cell? ⟨b, off, none⟩ = some (.string (ws.getD 0 ⟨#[]⟩)) := by
    have := cell_kept hba (hcl 0 (by omega))
    simpa using this
  have hsz := HSZ.out
  clear hb1 hba hbt HB0 HX0 HK0 HSL hcl
  rw [hk0] at hv0
  have trun := eq_run
  have tinp := ne_inp run_inp
  have tres := ne_res run_res
  have hn2 : ((n : Int) == 2) = false := by rw [beq_eq_false_iff_ne]; omega
  have HRF : Hid ((((w1.alloc (.cells #[.int .i64 0, .int .i64 0, .int .u32 0] 62)).setRow w1.heap.size #[.int .i64 0, .int .i64 0, .int .u32 0]).setRow (w.heap.size + 1) #[.int .i64 0, .int .i64 0, .int .u32 0]).heap[w.heap.size + 1]? = some (.cells #[.int .i64 0, .int .i64 0, .int .u32 0] 62 (0, 0))) := setRow_heap _ _ _ _ _ _ HR2.out
  have n0 : (((w1.alloc (.cells #[.int .i64 0, .int .i64 0, .int .u32 0] 62)).setRow w1.heap.size #[.int .i64 0, .int .i64 0, .int .u32 0]).setRow (w.heap.size + 1) #[.int .i64 0, .int .i64 0, .int .u32 0]).cell? ⟨w.heap.size + 1, 0, none⟩ = some (.int .i64 0) := row_c HRF.out 0 _ rfl
  have n1 : (((w1.alloc (.cells #[.int .i64 0, .int .i64 0, .int .u32 0] 62)).setRow w1.heap.size #[.int .i64 0, .int .i64 0, .int .u32 0]).setRow (w.heap.size + 1) #[.int .i64 0, .int .i64 0, .int .u32 0]).cell? ⟨w.heap.size + 1, 1, none⟩ = some (.int .i64 0) := row_c HRF.out 1 _ rfl
  have n2 : (((w1.alloc (.cells #[.int .i64 0, .int .i64 0, .int .u32 0] 62)).setRow w1.heap.size #[.int .i64 0, .int .i64 0, .int .u32 0]).setRow (w.heap.size + 1) #[.int .i64 0, .int .i64 0, .int .u32 0]).cell? ⟨w.heap.size + 1, 2, none⟩ = some (.int .u32 0) := row_c HRF.out 2 _ rfl
  have HBF : Hid (Below w.heap.size w (((w1.alloc (.cells #[.int .i64 0, .int .i64 0, .int .u32 0] 62)).setRow w1.heap.size #[.int .i64 0, .int .i64 0, .int .u32 0]).setRow (w.heap.size + 1) #[.int .i64 0, .int .i64 0, .int .u32 0])) := below_setRow HB1.out (by omega) _
  clear HB1 HX1
  go_wp2_with (first | (refine wpList_store_row rfl 62 (.tmp 7) (.tmp 17) rfl w1.heap.size #[.int .i64 0, .int .i64 0, .int .u32 0] rfl rfl 62 #[.int .i64 0, .int .i64 0, .int .u32 0] HN1.out (by kernel_rfl) rfl (by simp [Value.oneCell']) ?_) | (refine wpList_store_row rfl 62 (.tmp 4) (.tmp 107) rfl (w.heap.size + 1) #[.int .i64 0, .int .i64 0, .int .u32 0] rfl rfl 62 #[.int .i64 0, .int .i64 0, .int .u32 0] HR2.out (by kernel_rfl) rfl (by simp [Value.oneCell']) ?_) | fail)
  exact bodyPost_ret (v := .tuple #[.agg #[.int .i64 0, .int .i64 0, .int .u32 0], .int .i64 2]) (by simp [results, Tryz.results44, go_sem, n0, n1, n2]) rfl ⟨rfl, HBF.out⟩
set_option maxRecDepth 40000 in
set_option maxHeartbeats 8000000 in
theorem sl_noninp (t : Tb) (a : Ad) (s : ByteArray) (n : Nat) (ws : List ByteArray) (w : World) (hls : LS w t a s) (hws : Sp.texts 32 s = ws) (hn : ws.length = n) (hk0 : ws.getD 0 ⟨#[]⟩ = Sr.kinp) (hne : ¬ n = 3) :
    Calls Tryz.prog 44 #[tbV t a, .string s] w fun e w' => e = .returned (.tuple #[.agg #[.int .i64 0, .int .i64 0, .int .u32 0], .int .i64 2]) ∧ Below w.heap.size w w' := by
  have HB0 : Hid (Below w.heap.size w ((w.alloc (.cells (tbA t a) 43)).alloc (.cells #[.int .i64 0, .int .i64 0, .int .u32 0] 62))) := ((Below.refl _ _).alloc (Nat.le_refl _) _).alloc (by simp) _
  have HX0 : Hid (TBx ((w.alloc (.cells (tbA t a) 43)).alloc (.cells #[.int .i64 0, .int .i64 0, .int .u32 0] 62)) w.heap.size t a) := (TBx.new w t a _ rfl).below ((Below.refl _ _).alloc (Nat.le_refl _) _)
  have HK0 : Hid (((w.alloc (.cells (tbA t a) 43)).alloc (.cells #[.int .i64 0, .int .i64 0, .int .u32 0] 62)).heap[w.heap.size + 1]? = some (.cells #[.int .i64 0, .int .i64 0, .int .u32 0] 62 (0, 0))) := new_row (w.alloc (.cells (tbA t a) 43)) #[.int .i64 0, .int .i64 0, .int .u32 0] 62 _ (by simp)
  have hnp : 0 < n := by rw [← hn, ← hws]; exact Sr.texts_pos 32 s
  have hnb : n ≤ 1048577 := by
    rw [← hn, ← hws]
    have h1 := Sp.cut_many 32 s.data.toList
    have h2 : s.data.toList.length = s.size := rfl
    have h3 := hls.2.2.2
    unfold Sp.texts
    rw [List.length_map]
    omega
  have HSZ : Hid (∀ j, (ws.getD j ⟨#[]⟩).size ≤ 1048576) := fun j => by
    by_cases hj : j < ws.length
    · have h1 := Sr.texts_short 32 s (ws.getD j ⟨#[]⟩) (by rw [hws]; exact getD_in ws _ j hj)
      have := hls.2.2.2
      omega
    · rw [List.getD_eq_getElem?_getD, List.getElem?_eq_none (by omega)]
      decide
  have HSL : Hid (Calls Tryz.prog 72 #[.string s] ((w.alloc (.cells (tbA t a) 43)).alloc (.cells #[.int .i64 0, .int .i64 0, .int .u32 0] 62)) fun e w' => ∃ b off cap, e = .returned (.slice (some ⟨b, off, none⟩) n cap) ∧ n ≤ cap ∧ (∀ j, j < n → w'.cell? ⟨b, off + j, none⟩ = some (.string (ws.getD j ⟨#[]⟩))) ∧ Below ((w.alloc (.cells (tbA t a) 43)).alloc (.cells #[.int .i64 0, .int .i64 0, .int .u32 0] 62)).heap.size ((w.alloc (.cells (tbA t a) 43)).alloc (.cells #[.int .i64 0, .int .i64 0, .int .u32 0] 62)) w') := (spec_split s _ hls.2.2.2).mono fun e w' h => by
    obtain ⟨A, cap, h1, h2, h3, h4⟩ := h
    rw [hws] at h1 h2 h3
    rw [hn] at h1 h2
    obtain ⟨b, off, h5, h6, h7⟩ := flds_at h3 0 (by omega)
    subst h5
    exact ⟨b, off, cap, h1, h2, fun j hj => h7 j (by omega), h4⟩
  have HLS : Hid (∀ X, Below w.heap.size w X → PSegL 0 X a.pa a.pn t.ps a.Y) := fun X hX => hls.1.below hX
  have HL : Hid (t.ps.length = a.pn ∧ a.pn ≤ 1048576) := ⟨hls.2.1, hls.2.2.1⟩
  clear hls hws hn
  go_enter Tryz.func44, Tryz.ntmps44
  go_wp2_with fail
  refine Calls.mono HSL.out ?_
  rintro e w1 ⟨b, off, cap, rfl, hcap, hcl, hb1⟩
  have HN1 : Hid ((w1.alloc (.cells #[.int .i64 0, .int .i64 0, .int .u32 0] 62)).heap[w1.heap.size]? = some (.cells #[.int .i64 0, .int .i64 0, .int .u32 0] 62 (0, 0))) := new_row w1 _ _ _ rfl
  have hba : Below w1.heap.size w1 ((w1.alloc (.cells #[.int .i64 0, .int .i64 0, .int .u32 0] 62)).setRow w1.heap.size #[.int .i64 0, .int .i64 0, .int .u32 0]) := below_setRow ((Below.refl _ _).alloc (Nat.le_refl _) _) (Nat.le_refl _) _
  have hbt : Below ((w.alloc (.cells (tbA t a) 43)).alloc (.cells #[.int .i64 0, .int .i64 0, .int .u32 0] 62)).heap.size ((w.alloc (.cells (tbA t a) 43)).alloc (.cells #[.int .i64 0, .int .i64 0, .int .u32 0] 62)) ((w1.alloc (.cells #[.int .i64 0, .int .i64 0, .int .u32 0] 62)).setRow w1.heap.size #[.int .i64 0, .int .i64 0, .int .u32 0]) := hb1.trans (hba.mono hb1.size)
  have HB1 : Hid (Below w.heap.size w ((w1.alloc (.cells #[.int .i64 0, .int .i64 0, .int .u32 0] 62)).setRow w1.heap.size #[.int .i64 0, .int .i64 0, .int .u32 0])) := HB0.out.trans (hbt.mono HB0.out.size)
  have HX1 : Hid (TBx ((w1.alloc (.cells #[.int .i64 0, .int .i64 0, .int .u32 0] 62)).setRow w1.heap.size #[.int .i64 0, .int .i64 0, .int .u32 0]) w.heap.size t a) := HX0.out.below hbt
  have HR2 : Hid (((w1.alloc (.cells #[.int .i64 0, .int .i64 0, .int .u32 0] 62)).setRow w1.heap.size #[.int .i64 0, .int .i64 0, .int .u32 0]).heap[w.heap.size + 1]? = some (.cells #[.int .i64 0, .int .i64 0, .int .u32 0] 62 (0, 0))) := row_below HK0.out hbt
  have HRB : Hid (((w1.alloc (.cells #[.int .i64 0, .int .i64 0, .int .u32 0] 62)).setRow w1.heap.size #[.int .i64 0, .int .i64 0, .int .u32 0]).heap[w1.heap.size]? = some (.cells #[.int .i64 0, .int .i64 0, .int .u32 0] 62 (0, 0))) := setRow_heap _ _ _ _ _ _ HN1.out
  have z0 : ((w1.alloc (.cells #[.int .i64 0, .int .i64 0, .int .u32 0] 62)).setRow w1.heap.size #[.int .i64 0, .int .i64 0, .int .u32 0]).cell? ⟨w1.heap.size, 0, none⟩ = some (.int .i64 0) := row_c HRB.out 0 _ rfl
  have z1 : ((w1.alloc (.cells #[.int .i64 0, .int .i64 0, .int .u32 0] 62)).setRow w1.heap.size #[.int .i64 0, .int .i64 0, .int .u32 0]).cell? ⟨w1.heap.size, 1, none⟩ = some (.int .i64 0) := row_c HRB.out 1 _ rfl
  have z2 : ((w1.alloc (.cells #[.int .i64 0, .int .i64 0, .int .u32 0] 62)).setRow w1.heap.size #[.int .i64 0, .int .i64 0, .int .u32 0]).cell? ⟨w1.heap.size, 2, none⟩ = some (.int .u32 0) := row_c HRB.out 2 _ rfl
  have hv0 : ((w1.alloc (.cells #[.int .i64 0, .int .i64 0, .int .u32 0] 62)).setRow w1.heap.size #[.int .i64 0, .int .i64 0, .int .u32 0]).cell? ⟨b, off, none⟩ = some (.string (ws.getD 0 ⟨#[]⟩)) := by
    have := cell_kept hba (hcl 0 (by omega))
    simpa using this
  have hsz := HSZ.out
  clear hb1 hba hbt HB0 HX0 HK0 HSL hcl
  rw [hk0] at hv0
  have trun := ne_run inp_run
  have tinp := eq_inp
  have tres := ne_res inp_res
  have hn2 : ((n : Int) == 3) = false := by rw [beq_eq_false_iff_ne]; omega
  have HRF : Hid ((((w1.alloc (.cells #[.int .i64 0, .int .i64 0, .int .u32 0] 62)).setRow w1.heap.size #[.int .i64 0, .int .i64 0, .int .u32 0]).setRow (w.heap.size + 1) #[.int .i64 0, .int .i64 0, .int .u32 0]).heap[w.heap.size + 1]? = some (.cells #[.int .i64 0, .int .i64 0, .int .u32 0] 62 (0, 0))) := setRow_heap _ _ _ _ _ _ HR2.out
  have n0 : (((w1.alloc (.cells #[.int .i64 0, .int .i64 0, .int .u32 0] 62)).setRow w1.heap.size #[.int .i64 0, .int .i64 0, .int .u32 0]).setRow (w.heap.size + 1) #[.int .i64 0, .int .i64 0, .int .u32 0]).cell? ⟨w.heap.size + 1, 0, none⟩ = some (.int .i64 0) := row_c HRF.out 0 _ rfl
  have n1 : (((w1.alloc (.cells #[.int .i64 0, .int .i64 0, .int .u32 0] 62)).setRow w1.heap.size #[.int .i64 0, .int .i64 0, .int .u32 0]).setRow (w.heap.size + 1) #[.int .i64 0, .int .i64 0, .int .u32 0]).cell? ⟨w.heap.size + 1, 1, none⟩ = some (.int .i64 0) := row_c HRF.out 1 _ rfl
  have n2 : (((w1.alloc (.cells #[.int .i64 0, .int .i64 0, .int .u32 0] 62)).setRow w1.heap.size #[.int .i64 0, .int .i64 0, .int .u32 0]).setRow (w.heap.size + 1) #[.int .i64 0, .int .i64 0, .int .u32 0]).cell? ⟨w.heap.size + 1, 2, none⟩ = some (.int .u32 0) := row_c HRF.out 2 _ rfl
  have HBF : Hid (Below w.heap.size w (((w1.alloc (.cells #[.int .i64 0, .int .i64 0, .int .u32 0] 62)).setRow w1.heap.size #[.int .i64 0, .int .i64 0, .int .u32 0]).setRow (w.heap.size + 1) #[.int .i64 0, .int .i64 0, .int .u32 0])) := below_setRow HB1.out (by omega) _
  clear HB1 HX1
  go_wp2_with (first | (refine wpList_store_row rfl 62 (.tmp 7) (.tmp 17) rfl w1.heap.size #[.int .i64 0, .int .i64 0, .int .u32 0] rfl rfl 62 #[.int .i64 0, .int .i64 0, .int .u32 0] HN1.out (by kernel_rfl) rfl (by simp [Value.oneCell']) ?_) | (refine wpList_store_row rfl 62 (.tmp 4) (.tmp 107) rfl (w.heap.size + 1) #[.int .i64 0, .int .i64 0, .int .u32 0] rfl rfl 62 #[.int .i64 0, .int .i64 0, .int .u32 0] HR2.out (by kernel_rfl) rfl (by simp [Value.oneCell']) ?_) | fail)
  exact bodyPost_ret (v := .tuple #[.agg #[.int .i64 0, .int .i64 0, .int .u32 0], .int .i64 2]) (by simp [results, Tryz.results44, go_sem, n0, n1, n2]) rfl ⟨rfl, HBF.out⟩
set_option maxRecDepth 40000 in
set_option maxHeartbeats 8000000 in
theorem sl_nonres (t : Tb) (a : Ad) (s : ByteArray) (n : Nat) (ws : List ByteArray) (w : World) (hls : LS w t a s) (hws : Sp.texts 32 s = ws) (hn : ws.length = n) (hk0 : ws.getD 0 ⟨#[]⟩ = Sr.kres) (hne : ¬ n = 2) :
    Calls Tryz.prog 44 #[tbV t a, .string s] w fun e w' => e = .returned (.tuple #[.agg #[.int .i64 0, .int .i64 0, .int .u32 0], .int .i64 2]) ∧ Below w.heap.size w w' := by
  have HB0 : Hid (Below w.heap.size w ((w.alloc (.cells (tbA t a) 43)).alloc (.cells #[.int .i64 0, .int .i64 0, .int .u32 0] 62))) := ((Below.refl _ _).alloc (Nat.le_refl _) _).alloc (by simp) _
  have HX0 : Hid (TBx ((w.alloc (.cells (tbA t a) 43)).alloc (.cells #[.int .i64 0, .int .i64 0, .int .u32 0] 62)) w.heap.size t a) := (TBx.new w t a _ rfl).below ((Below.refl _ _).alloc (Nat.le_refl _) _)
  have HK0 : Hid (((w.alloc (.cells (tbA t a) 43)).alloc (.cells #[.int .i64 0, .int .i64 0, .int .u32 0] 62)).heap[w.heap.size + 1]? = some (.cells #[.int .i64 0, .int .i64 0, .int .u32 0] 62 (0, 0))) := new_row (w.alloc (.cells (tbA t a) 43)) #[.int .i64 0, .int .i64 0, .int .u32 0] 62 _ (by simp)
  have hnp : 0 < n := by rw [← hn, ← hws]; exact Sr.texts_pos 32 s
  have hnb : n ≤ 1048577 := by
    rw [← hn, ← hws]
    have h1 := Sp.cut_many 32 s.data.toList
    have h2 : s.data.toList.length = s.size := rfl
    have h3 := hls.2.2.2
    unfold Sp.texts
    rw [List.length_map]
    omega
  have HSZ : Hid (∀ j, (ws.getD j ⟨#[]⟩).size ≤ 1048576) := fun j => by
    by_cases hj : j < ws.length
    · have h1 := Sr.texts_short 32 s (ws.getD j ⟨#[]⟩) (by rw [hws]; exact getD_in ws _ j hj)
      have := hls.2.2.2
      omega
    · rw [List.getD_eq_getElem?_getD, List.getElem?_eq_none (by omega)]
      decide
  have HSL : Hid (Calls Tryz.prog 72 #[.string s] ((w.alloc (.cells (tbA t a) 43)).alloc (.cells #[.int .i64 0, .int .i64 0, .int .u32 0] 62)) fun e w' => ∃ b off cap, e = .returned (.slice (some ⟨b, off, none⟩) n cap) ∧ n ≤ cap ∧ (∀ j, j < n → w'.cell? ⟨b, off + j, none⟩ = some (.string (ws.getD j ⟨#[]⟩))) ∧ Below ((w.alloc (.cells (tbA t a) 43)).alloc (.cells #[.int .i64 0, .int .i64 0, .int .u32 0] 62)).heap.size ((w.alloc (.cells (tbA t a) 43)).alloc (.cells #[.int .i64 0, .int .i64 0, .int .u32 0] 62)) w') := (spec_split s _ hls.2.2.2).mono fun e w' h => by
    obtain ⟨A, cap, h1, h2, h3, h4⟩ := h
    rw [hws] at h1 h2 h3
    rw [hn] at h1 h2
    obtain ⟨b, off, h5, h6, h7⟩ := flds_at h3 0 (by omega)
    subst h5
    exact ⟨b, off, cap, h1, h2, fun j hj => h7 j (by omega), h4⟩
  have HLS : Hid (∀ X, Below w.heap.size w X → PSegL 0 X a.pa a.pn t.ps a.Y) := fun X hX => hls.1.below hX
  have HL : Hid (t.ps.length = a.pn ∧ a.pn ≤ 1048576) := ⟨hls.2.1, hls.2.2.1⟩
  clear hls hws hn
  go_enter Tryz.func44, Tryz.ntmps44
  go_wp2_with fail
  refine Calls.mono HSL.out ?_
  rintro e w1 ⟨b, off, cap, rfl, hcap, hcl, hb1⟩
  have HN1 : Hid ((w1.alloc (.cells #[.int .i64 0, .int .i64 0, .int .u32 0] 62)).heap[w1.heap.size]? = some (.cells #[.int .i64 0, .int .i64 0, .int .u32 0] 62 (0, 0))) := new_row w1 _ _ _ rfl
  have hba : Below w1.heap.size w1 ((w1.alloc (.cells #[.int .i64 0, .int .i64 0, .int .u32 0] 62)).setRow w1.heap.size #[.int .i64 0, .int .i64 0, .int .u32 0]) := below_setRow ((Below.refl _ _).alloc (Nat.le_refl _) _) (Nat.le_refl _) _
  have hbt : Below ((w.alloc (.cells (tbA t a) 43)).alloc (.cells #[.int .i64 0, .int .i64 0, .int .u32 0] 62)).heap.size ((w.alloc (.cells (tbA t a) 43)).alloc (.cells #[.int .i64 0, .int .i64 0, .int .u32 0] 62)) ((w1.alloc (.cells #[.int .i64 0, .int .i64 0, .int .u32 0] 62)).setRow w1.heap.size #[.int .i64 0, .int .i64 0, .int .u32 0]) := hb1.trans (hba.mono hb1.size)
  have HB1 : Hid (Below w.heap.size w ((w1.alloc (.cells #[.int .i64 0, .int .i64 0, .int .u32 0] 62)).setRow w1.heap.size #[.int .i64 0, .int .i64 0, .int .u32 0])) := HB0.out.trans (hbt.mono HB0.out.size)
  have HX1 : Hid (TBx ((w1.alloc (.cells #[.int .i64 0, .int .i64 0, .int .u32 0] 62)).setRow w1.heap.size #[.int .i64 0, .int .i64 0, .int .u32 0]) w.heap.size t a) := HX0.out.below hbt
  have HR2 : Hid (((w1.alloc (.cells #[.int .i64 0, .int .i64 0, .int .u32 0] 62)).setRow w1.heap.size #[.int .i64 0, .int .i64 0, .int .u32 0]).heap[w.heap.size + 1]? = some (.cells #[.int .i64 0, .int .i64 0, .int .u32 0] 62 (0, 0))) := row_below HK0.out hbt
  have HRB : Hid (((w1.alloc (.cells #[.int .i64 0, .int .i64 0, .int .u32 0] 62)).setRow w1.heap.size #[.int .i64 0, .int .i64 0, .int .u32 0]).heap[w1.heap.size]? = some (.cells #[.int .i64 0, .int .i64 0, .int .u32 0] 62 (0, 0))) := setRow_heap _ _ _ _ _ _ HN1.out
  have z0 : ((w1.alloc (.cells #[.int .i64 0, .int .i64 0, .int .u32 0] 62)).setRow w1.heap.size #[.int .i64 0, .int .i64 0, .int .u32 0]).cell? ⟨w1.heap.size, 0, none⟩ = some (.int .i64 0) := row_c HRB.out 0 _ rfl
  have z1 : ((w1.alloc (.cells #[.int .i64 0, .int .i64 0, .int .u32 0] 62)).setRow w1.heap.size #[.int .i64 0, .int .i64 0, .int .u32 0]).cell? ⟨w1.heap.size, 1, none⟩ = some (.int .i64 0) := row_c HRB.out 1 _ rfl
  have z2 : ((w1.alloc (.cells #[.int .i64 0, .int .i64 0, .int .u32 0] 62)).setRow w1.heap.size #[.int .i64 0, .int .i64 0, .int .u32 0]).cell? ⟨w1.heap.size, 2, none⟩ = some (.int .u32 0) := row_c HRB.out 2 _ rfl
  have hv0 : ((w1.alloc (.cells #[.int .i64 0, .int .i64 0, .int .u32 0] 62)).setRow w1.heap.size #[.int .i64 0, .int .i64 0, .int .u32 0]).cell? ⟨b, off, none⟩ = some (.string (ws.getD 0 ⟨#[]⟩)) := by
    have := cell_kept hba (hcl 0 (by omega))
    simpa using this
  have hsz := HSZ.out
  clear hb1 hba hbt HB0 HX0 HK0 HSL hcl
  rw [hk0] at hv0
  have trun := ne_run res_run
  have tinp := ne_inp res_inp
  have tres := eq_res
  have hn2 : ((n : Int) == 2) = false := by rw [beq_eq_false_iff_ne]; omega
  have HRF : Hid ((((w1.alloc (.cells #[.int .i64 0, .int .i64 0, .int .u32 0] 62)).setRow w1.heap.size #[.int .i64 0, .int .i64 0, .int .u32 0]).setRow (w.heap.size + 1) #[.int .i64 0, .int .i64 0, .int .u32 0]).heap[w.heap.size + 1]? = some (.cells #[.int .i64 0, .int .i64 0, .int .u32 0] 62 (0, 0))) := setRow_heap _ _ _ _ _ _ HR2.out
  have n0 : (((w1.alloc (.cells #[.int .i64 0, .int .i64 0, .int .u32 0] 62)).setRow w1.heap.size #[.int .i64 0, .int .i64 0, .int .u32 0]).setRow (w.heap.size + 1) #[.int .i64 0, .int .i64 0, .int .u32 0]).cell? ⟨w.heap.size + 1, 0, none⟩ = some (.int .i64 0) := row_c HRF.out 0 _ rfl
  have n1 : (((w1.alloc (.cells #[.int .i64 0, .int .i64 0, .int .u32 0] 62)).setRow w1.heap.size #[.int .i64 0, .int .i64 0, .int .u32 0]).setRow (w.heap.size + 1) #[.int .i64 0, .int .i64 0, .int .u32 0]).cell? ⟨w.heap.size + 1, 1, none⟩ = some (.int .i64 0) := row_c HRF.out 1 _ rfl
  have n2 : (((w1.alloc (.cells #[.int .i64 0, .int .i64 0, .int .u32 0] 62)).setRow w1.heap.size #[.int .i64 0, .int .i64 0, .int .u32 0]).setRow (w.heap.size + 1) #[.int .i64 0, .int .i64 0, .int .u32 0]).cell? ⟨w.heap.size + 1, 2, none⟩ = some (.int .u32 0) := row_c HRF.out 2 _ rfl
  have HBF : Hid (Below w.heap.size w (((w1.alloc (.cells #[.int .i64 0, .int .i64 0, .int .u32 0] 62)).setRow w1.heap.size #[.int .i64 0, .int .i64 0, .int .u32 0]).setRow (w.heap.size + 1) #[.int .i64 0, .int .i64 0, .int .u32 0])) := below_setRow HB1.out (by omega) _
  clear HB1 HX1
  go_wp2_with (first | (refine wpList_store_row rfl 62 (.tmp 7) (.tmp 17) rfl w1.heap.size #[.int .i64 0, .int .i64 0, .int .u32 0] rfl rfl 62 #[.int .i64 0, .int .i64 0, .int .u32 0] HN1.out (by kernel_rfl) rfl (by simp [Value.oneCell']) ?_) | (refine wpList_store_row rfl 62 (.tmp 4) (.tmp 107) rfl (w.heap.size + 1) #[.int .i64 0, .int .i64 0, .int .u32 0] rfl rfl 62 #[.int .i64 0, .int .i64 0, .int .u32 0] HR2.out (by kernel_rfl) rfl (by simp [Value.oneCell']) ?_) | fail)
  exact bodyPost_ret (v := .tuple #[.agg #[.int .i64 0, .int .i64 0, .int .u32 0], .int .i64 2]) (by simp [results, Tryz.results44, go_sem, n0, n1, n2]) rfl ⟨rfl, HBF.out⟩
theorem spec_line (t : Tb) (a : Ad) (s : ByteArray) (w : World) (hls : LS w t a s) :
    Calls Tryz.prog 44 #[tbV t a, .string s] w fun e w' => e = .returned (.tuple #[cmV (Sr.wordsP t (Sp.texts 32 s)).1, .int .i64 (Sr.wordsP t (Sp.texts 32 s)).2]) ∧ Below w.heap.size w w' := by
  obtain ⟨ws, hws⟩ : ∃ ws, Sp.texts 32 s = ws := ⟨_, rfl⟩
  rw [hws]
  unfold Sr.wordsP
  by_cases h0 : ws.getD 0 ⟨#[]⟩ = Sr.krun
  · by_cases h2 : ws.length = 2
    · rw [if_pos ⟨h0, h2⟩]
      unfold Sr.runP
      cases hq : Sr.numV (ws.getD 1 ⟨#[]⟩) 50000 with
      | none => exact sl_run0 t a s _ ws w hls hws rfl h0 h2 hq
      | some m =>
        by_cases hm : m < 0
        · simp only [if_pos hm]
          exact sl_run1 t a s _ ws w hls hws rfl h0 h2 m hq hm
        · simp only [if_neg hm]
          exact sl_run2 t a s _ ws w hls hws rfl h0 h2 m hq hm
    · rw [if_neg (fun h => h2 h.2), if_neg (fun h => run_inp (h0.symm.trans h.1)), if_neg (fun h => run_res (h0.symm.trans h.1))]
      exact sl_nonrun t a s _ ws w hls hws rfl h0 h2
  rw [if_neg (fun h => h0 h.1)]
  by_cases h1 : ws.getD 0 ⟨#[]⟩ = Sr.kinp
  · by_cases h2 : ws.length = 3
    · rw [if_pos ⟨h1, h2⟩]
      unfold Sr.inpP
      cases hq : Sr.numV (ws.getD 1 ⟨#[]⟩) 7 with
      | none => exact sl_inp0 t a s _ ws w hls hws rfl h1 h2 hq _ rfl
      | some d =>
        cases hr : Sr.numV (ws.getD 2 ⟨#[]⟩) 4294967295 with
        | none => exact sl_inp1 t a s _ ws w hls hws rfl h1 h2 d hq hr
        | some v =>
          by_cases hd : d < 0
          · simp only [if_pos (Or.inl hd : d < 0 ∨ v < 0)]
            exact sl_inp2 t a s _ ws w hls hws rfl h1 h2 d v hq hr hd
          · by_cases hv : v < 0
            · simp only [if_pos (Or.inr hv : d < 0 ∨ v < 0)]
              exact sl_inp3 t a s _ ws w hls hws rfl h1 h2 d v hq hr hd hv
            · simp only [if_neg (fun h : d < 0 ∨ v < 0 => h.elim hd hv)]
              exact sl_inp4 t a s _ ws w hls hws rfl h1 h2 d v _ hq hr hd hv rfl
    · rw [if_neg (fun h => h2 h.2), if_neg (fun h => inp_res (h1.symm.trans h.1))]
      exact sl_noninp t a s _ ws w hls hws rfl h1 h2
  rw [if_neg (fun h => h1 h.1)]
  by_cases h2 : ws.getD 0 ⟨#[]⟩ = Sr.kres
  · by_cases h3 : ws.length = 2
    · rw [if_pos ⟨h2, h3⟩]
      unfold Sr.resP
      by_cases hn : Sr.nmV t (ws.getD 1 ⟨#[]⟩) < 0
      · rw [if_pos hn]
        exact sl_res0 t a s _ ws w hls hws rfl h2 h3 _ rfl hn
      · rw [if_neg hn]
        exact sl_res1 t a s _ ws w hls hws rfl h2 h3 _ rfl hn
    · rw [if_neg (fun h => h3 h.2)]
      exact sl_nonres t a s _ ws w hls hws rfl h2 h3
  · rw [if_neg (fun h => h2 h.1)]
    exact sl_non0 t a s _ ws w hls hws rfl h0 h1 h2
end Go.Proofs.YtmnoghhdkdjnmaaGreatDoor
