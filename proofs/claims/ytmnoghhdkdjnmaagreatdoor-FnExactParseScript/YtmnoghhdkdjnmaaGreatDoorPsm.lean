
/-
  The program's map of readers, keyed by the first word: what cmdReaders makes, what a look-up gives. No conditions but that words are at most 1048576 bytes long.
-/
import Derived.Test.YtmnoghhdkdjnmaaGreatDoorBas
import Derived.Test.YtmnoghhdkdjnmaaGreatDoorPsb
import Derived.Maps.OwnSet
import Derived.StringKeys
import Derived.Laws.EntriesVeiled
namespace Go.Proofs.YtmnoghhdkdjnmaaGreatDoor
open Go.ChangeShapes Go.WideShapes Go.ChangeAt Go.RowKit Go.Deep Go.Joins Go.Maps
set_option linter.unusedVariables false

abbrev rd0 : Value := .agg #[.int .i64 0, .nilFunc]
abbrev rd1 : Value := .agg #[.int .i64 1, .func (.func 77) #[] #[]]
abbrev rd2 : Value := .agg #[.int .i64 2, .func (.func 78) #[] #[]]
abbrev rd3 : Value := .agg #[.int .i64 1, .func (.func 79) #[] #[]]
set_option maxRecDepth 40000 in
theorem bl1 : ((Tryz.prog.built 136 [(0, .int .i64 1), (1, .func (.func 77) #[] #[])]).getD #[]) = #[.int .i64 1, .func (.func 77) #[] #[]] := by kernel_rfl
set_option maxRecDepth 40000 in
theorem bl2 : ((Tryz.prog.built 136 [(0, .int .i64 2), (1, .func (.func 78) #[] #[])]).getD #[]) = #[.int .i64 2, .func (.func 78) #[] #[]] := by kernel_rfl
set_option maxRecDepth 40000 in
theorem bl3 : ((Tryz.prog.built 136 [(0, .int .i64 1), (1, .func (.func 79) #[] #[])]).getD #[]) = #[.int .i64 1, .func (.func 79) #[] #[]] := by kernel_rfl
open Classical in
noncomputable def rdR (v : Value) : Option (DataW Unit × List MemPlace) := if v = rd0 then some (.lit (.int .i64 0), []) else if v = rd1 then some (.lit (.int .i64 1), []) else if v = rd2 then some (.lit (.int .i64 2), []) else if v = rd3 then some (.lit (.int .i64 3), []) else none
theorem ne10 : ¬ rd1 = rd0 := fun h => by injection h with h; injection h with h; simp at h
theorem ne20 : ¬ rd2 = rd0 := fun h => by injection h with h; injection h with h; simp at h
theorem ne30 : ¬ rd3 = rd0 := fun h => by injection h with h; injection h with h; simp at h
theorem ne21 : ¬ rd2 = rd1 := fun h => by injection h with h; injection h with h; simp at h
theorem ne31 : ¬ rd3 = rd1 := fun h => by injection h with h; injection h with h; simp at h
theorem ne32 : ¬ rd3 = rd2 := fun h => by injection h with h; injection h with h; simp at h
theorem rdR0 : rdR rd0 = some (.lit (.int .i64 0), []) := by unfold rdR; rw [if_pos rfl]
theorem rdR1 : rdR rd1 = some (.lit (.int .i64 1), []) := by unfold rdR; rw [if_neg ne10, if_pos rfl]
theorem rdR2 : rdR rd2 = some (.lit (.int .i64 2), []) := by unfold rdR; rw [if_neg ne20, if_neg ne21, if_pos rfl]
theorem rdR3 : rdR rd3 = some (.lit (.int .i64 3), []) := by unfold rdR; rw [if_neg ne30, if_neg ne31, if_neg ne32, if_pos rfl]
theorem rd_inv {v : Value} {n : Int} {ps : List MemPlace} (h : rdR v = some (.lit (.int .i64 n), ps)) : (n = 0 → v = rd0) ∧ (n = 1 → v = rd1) ∧ (n = 2 → v = rd2) ∧ (n = 3 → v = rd3) := by
  unfold rdR at h
  split at h
  · simp at h; obtain ⟨h, _⟩ := h; subst h; exact ⟨fun _ => by assumption, fun g => by omega, fun g => by omega, fun g => by omega⟩
  split at h
  · simp at h; obtain ⟨h, _⟩ := h; subst h; exact ⟨fun g => by omega, fun _ => by assumption, fun g => by omega, fun g => by omega⟩
  split at h
  · simp at h; obtain ⟨h, _⟩ := h; subst h; exact ⟨fun g => by omega, fun g => by omega, fun _ => by assumption, fun g => by omega⟩
  split at h
  · simp at h; obtain ⟨h, _⟩ := h; subst h; exact ⟨fun g => by omega, fun g => by omega, fun g => by omega, fun _ => by assumption⟩
  · cases h
def klit (x : ByteArray) : Lit := .string x.data.toList
theorem klit_inj {x y : ByteArray} (h : klit x = klit y) : x = y := by
  injection h with h
  apply ByteArray.ext
  exact Array.toList_inj.1 h
theorem klit_key (x : ByteArray) : WideAt.IsKeyLit (klit x) := trivial
noncomputable def dm1 : DataW Unit := (.map [] : DataW Unit).put (klit Sr.krun) (.lit (.int .i64 1))
noncomputable def dm2 : DataW Unit := dm1.put (klit Sr.kinp) (.lit (.int .i64 2))
noncomputable def dm3 : DataW Unit := dm2.put (klit Sr.kres) (.lit (.int .i64 3))
theorem dm0_is : IsMap (.map [] : DataW Unit) := isMap_empty
theorem dm1_is : IsMap dm1 := dm0_is.put _ _
theorem dm2_is : IsMap dm2 := dm1_is.put _ _
/-- Block 'b' is the map of readers. -/
def RdM (w : World) (b : Nat) : Prop := w.ownsMap Tryz.prog 9 rdR b 3 dm3
theorem skey : Keyed Tryz.prog 9 := string_keyed Tryz.underlying9
theorem zero_rd (w : World) : (zeroValue 136).run Tryz.prog w = .ok rd0 w := by kernel_rfl
theorem key_of (x : ByteArray) (hx : x.size ≤ 1048576) : keyOf Tryz.prog 9 (.string x) = some (klit x) := WideMaps.keyOf_string_mk Tryz.underlying9 (by unfold maxLen; omega)
theorem RdM.below {w w' : World} {b : Nat} (h : RdM w b) (hb : Below w.heap.size w w') : RdM w' b := by
  obtain ⟨es, ck, hh, r⟩ := h
  refine ⟨es, ck, ?_, r⟩
  rw [hb.block b (Array.getElem?_eq_some_iff.1 hh).1]
  exact hh
theorem RdM.kept {w w' : World} {b : Nat} (h : RdM w b) (hk : w'.heap[b]? = w.heap[b]?) : RdM w' b := by
  obtain ⟨es, ck, hh, r⟩ := h
  exact ⟨es, ck, hk.trans hh, r⟩
theorem RdM.lt {w : World} {b : Nat} (h : RdM w b) : b < w.heap.size := World.ownsMap.lt h
theorem RdM.look {w : World} {b : Nat} (h : RdM w b) (x : ByteArray) (hx : x.size ≤ 1048576) (k : Int) (v : Value) {q : Bool} (hs : Maps.has dm3 (klit x) = q) (ha : dm3.atKey (klit x) (.lit (.int .i64 0)) = .lit (.int .i64 k)) (hv : ∀ u ps, rdR u = some (.lit (.int .i64 k), ps) → u = v) :
    (Instr.lookup 101 (.map (some b)) (.string x) true).run Tryz.prog w = .ok (.tuple #[v, .bool q]) w := by
  obtain ⟨u, ps, hrun, hu⟩ := World.ownsMap.look_ok (t := 101) h skey Tryz.underlying101 (zero_rd w) rdR0 (key_of x hx)
  rw [ha] at hu
  rw [hs, hv u ps hu] at hrun
  exact hrun
theorem look_run {w : World} {b : Nat} (h : RdM w b) : (Instr.lookup 101 (.map (some b)) (.string Sr.krun) true).run Tryz.prog w = .ok (.tuple #[rd1, .bool true]) w :=
  h.look Sr.krun (by decide) 1 rd1 (by unfold dm3 dm2 dm1; rw [has_put_other (fun e => run_res (klit_inj e)), has_put_other (fun e => run_inp (klit_inj e)), has_put_same dm0_is (klit_key _)]) (by unfold dm3 dm2 dm1; rw [atKey_put_other (fun e => run_res (klit_inj e)), atKey_put_other (fun e => run_inp (klit_inj e)), atKey_put_same dm0_is (klit_key _)]) (fun u ps hu => (rd_inv hu).2.1 rfl)
theorem look_inp {w : World} {b : Nat} (h : RdM w b) : (Instr.lookup 101 (.map (some b)) (.string Sr.kinp) true).run Tryz.prog w = .ok (.tuple #[rd2, .bool true]) w :=
  h.look Sr.kinp (by decide) 2 rd2 (by unfold dm3 dm2; rw [has_put_other (fun e => inp_res (klit_inj e)), has_put_same dm1_is (klit_key _)]) (by unfold dm3 dm2; rw [atKey_put_other (fun e => inp_res (klit_inj e)), atKey_put_same dm1_is (klit_key _)]) (fun u ps hu => (rd_inv hu).2.2.1 rfl)
theorem look_res {w : World} {b : Nat} (h : RdM w b) : (Instr.lookup 101 (.map (some b)) (.string Sr.kres) true).run Tryz.prog w = .ok (.tuple #[rd3, .bool true]) w :=
  h.look Sr.kres (by decide) 3 rd3 (by unfold dm3; rw [has_put_same dm2_is (klit_key _)]) (by unfold dm3; rw [atKey_put_same dm2_is (klit_key _)]) (fun u ps hu => (rd_inv hu).2.2.2 rfl)
theorem look_non {w : World} {b : Nat} (h : RdM w b) (x : ByteArray) (hx : x.size ≤ 1048576) (h1 : ¬ x = Sr.krun) (h2 : ¬ x = Sr.kinp) (h3 : ¬ x = Sr.kres) : (Instr.lookup 101 (.map (some b)) (.string x) true).run Tryz.prog w = .ok (.tuple #[rd0, .bool false]) w :=
  h.look x hx 0 rd0 (by unfold dm3 dm2 dm1; rw [has_put_other (fun e => h3 (klit_inj e)), has_put_other (fun e => h2 (klit_inj e)), has_put_other (fun e => h1 (klit_inj e))]; rfl) (by unfold dm3 dm2 dm1; rw [atKey_put_other (fun e => h3 (klit_inj e)), atKey_put_other (fun e => h2 (klit_inj e)), atKey_put_other (fun e => h1 (klit_inj e))]; rfl) (fun u ps hu => (rd_inv hu).1 rfl)
set_option maxRecDepth 40000 in
set_option maxHeartbeats 8000000 in
theorem readers (w : World) : Calls Tryz.prog 46 #[] w fun e w' => e = .returned (.map (some w.heap.size)) ∧ RdM w' w.heap.size ∧ Below w.heap.size w w' := by
  have hmk : (Instr.makeMap 101 none).run Tryz.prog w = .ok (.map (some w.heap.size)) (w.alloc (.map #[] 0)) := by kernel_rfl
  have h0 : (w.alloc (.map #[] 0)).ownsMap Tryz.prog 9 rdR w.heap.size 0 (.map []) := World.ownsMap_made w _ _ _
  obtain ⟨wa, r1, h1, g1⟩ := World.ownsMap.update (t := 101) h0 skey Tryz.underlying101 (by unfold maxLen; omega) (key_of Sr.krun (by decide)) rdR1
  obtain ⟨wb, r2, h2, g2⟩ := World.ownsMap.update (t := 101) h1 skey Tryz.underlying101 (by unfold maxLen; omega) (key_of Sr.kinp (by decide)) rdR2
  obtain ⟨wc, r3, h3, g3⟩ := World.ownsMap.update (t := 101) h2 skey Tryz.underlying101 (by unfold maxLen; omega) (key_of Sr.kres (by decide)) rdR3
  have HM : Hid (RdM wc w.heap.size) := h3
  have HB : Hid (Below w.heap.size w wc) := by
    have b0 : Below w.heap.size w (w.alloc (.map #[] 0)) := (Below.refl _ _).alloc (Nat.le_refl _) _
    have b1 := b0.grown g1 (by simp) (fun k hk => by cases hk; exact Nat.le_refl _)
    have b2 := b1.grown g2 b1.size (fun k hk => by cases hk; exact Nat.le_refl _)
    exact b2.grown g3 b2.size (fun k hk => by cases hk; exact Nat.le_refl _)
  clear h0 h1 h2 h3 g1 g2 g3
  go_enter Tryz.func46, Tryz.ntmps46
  go_wp2_with (first | (refine wpList_build rfl 136 #[(0, .const (.int .i64 1)), (1, .func 77)] rfl (by kernel_rfl) ?_; rw [show ((Tryz.prog.built 136 _).getD #[]) = _ from bl1]) | (refine wpList_build rfl 136 #[(0, .const (.int .i64 2)), (1, .func 78)] rfl (by kernel_rfl) ?_; rw [show ((Tryz.prog.built 136 _).getD #[]) = _ from bl2]) | (refine wpList_build rfl 136 #[(0, .const (.int .i64 1)), (1, .func 79)] rfl (by kernel_rfl) ?_; rw [show ((Tryz.prog.built 136 _).getD #[]) = _ from bl3]) | fail)
  go_ret
  exact ⟨rfl, HM.out, HB.out⟩
end Go.Proofs.YtmnoghhdkdjnmaaGreatDoor
