/-
  Instructions, right or not, and the words that the specification makes of them. No conditions but those that each fact names.
  What the specification's draw of an instruction returns: an instruction, and a cursor that stays one. Conditions: the bytes drawn from are at most 1048576.
  Words drawn one behind the other: whatever the bytes, a list of words in memory of its own. Conditions: the cursor stands over bytes.
  Some words of a guest, drawn: whatever the bytes, so many words in memory of their own. Conditions: the cursor stands over bytes; at most 64 words.
-/
import Derived.Test.YtanffdedignegaaProg
import Derived.Test.YtanffdedignegaaSegs
import Derived.Below
import Derived.Deep.RegionWith
import Derived.BigRegion
import Derived.Deep.QuietTactic
import Derived.BigQuiet
import Derived.Test.YtanffdedignegaaDraw
import Derived.Test.YtanffdedignegaaDwd
import Derived.Test.YtanffdedignegaaBap
import Derived.Test.YtanffdedignegaaGcp
import Derived.Deep.AppendLies
import Derived.OwnWalk
namespace Go.Proofs.Ytanffdedignegaa
namespace Iy
open Go.ChangeShapes Go.WideShapes Go.ChangeAt Go.RowKit Go.Deep
set_option linter.unusedVariables false
set_option maxRecDepth 20000

def forms : List Int := [0, 7, 7, 7, 7, 7, 7, 7, 7, 7, 7, 7, 7, 11, 9, 11, 11, 11, 11, 11, 11, 11, 9, 10, 1, 11, 11, 11, 9, 9, 0, 0, 8]
def form (op : Int) : Int := forms.getD op.toNat 0
theorem cells_new (w : World) (cs : List Int) (T : TypeId) (i : Nat) (hi : i < cs.length) :
    (w.alloc (.cells (cs.map (Value.int .i64)).toArray T)).cell? ⟨w.heap.size, i, none⟩ = some (.int .i64 (cs.getD i 0)) := by
  simp [hi]
theorem in_yes (x a b : Int) (w : World) (h1 : a ≤ x) (h2 : x ≤ b) : Calls Try.prog 53 #[.int .i64 x, .int .i64 a, .int .i64 b] w fun e w' => e = .returned (.bool true) ∧ w' = w := by
  go_enter Try.func53, Try.ntmps53
  go_wp2
  go_ret
  exact ⟨rfl, rfl⟩
theorem in_no (x a b : Int) (w : World) (h : ¬ (a ≤ x ∧ x ≤ b)) : Calls Try.prog 53 #[.int .i64 x, .int .i64 a, .int .i64 b] w fun e w' => e = .returned (.bool false) ∧ w' = w := by
  go_enter Try.func53, Try.ntmps53
  by_cases h1 : a ≤ x
  · have h2 : ¬ x ≤ b := fun h2 => h ⟨h1, h2⟩
    go_wp2
    go_ret
    exact ⟨rfl, rfl⟩
  · go_wp2
    go_ret
    exact ⟨rfl, rfl⟩
theorem spec_forms (w : World) : Calls Try.prog 68 #[] w fun e w' => e = .returned (.slice (some ⟨w.heap.size, 0, none⟩) 33 33) ∧ Below w.heap.size w w' ∧ ∀ i, i < 33 → w'.cell? ⟨w.heap.size, i, none⟩ = some (.int .i64 (forms.getD i 0)) := by
  go_enter Try.func68, Try.ntmps68
  go_wp2
  go_ret
  exact ⟨rfl, (Below.refl _ _).alloc (Nat.le_refl _) _, fun i hi => cells_new w forms 3 i hi⟩
theorem spec_form (k : Nat) (f : Int) (w : World) (hk : k < 33) (hf : forms.getD k 0 = f) :
    Calls Try.prog 65 #[.int .i64 k] w fun e w' => e = .returned (.int .i64 f) ∧ Below w.heap.size w w' := by
  have HF : Hid _ := hf
  clear hf
  go_enter Try.func65, Try.ntmps65
  go_wp2_with fail
  refine (in_yes _ _ _ _ (by omega) (by omega)).mono ?_
  rintro e w1 ⟨rfl, rfl⟩
  go_wp2_with fail
  refine (spec_forms _).mono ?_
  rintro e w2 ⟨rfl, hb, hc⟩
  have hk' := hc k hk
  rw [HF.out] at hk'
  clear hc
  go_wp2
  go_ret
  exact ⟨rfl, hb⟩
theorem spec_form_no (x : Int) (w : World) (h : ¬ (0 ≤ x ∧ x ≤ 32)) :
    Calls Try.prog 65 #[.int .i64 x] w fun e w' => e = .returned (.int .i64 (-1)) ∧ w' = w := by
  have H : Hid _ := h
  clear h
  go_enter Try.func65, Try.ntmps65
  go_wp2_with fail
  refine (in_no _ _ _ _ H.out).mono ?_
  rintro e w1 ⟨rfl, rfl⟩
  go_wp2
  go_ret
  exact ⟨rfl, rfl⟩
abbrev ins (op a b c m : Int) : Value := .agg #[.int .i64 op, .int .i64 a, .int .i64 b, .int .i64 c, .int .i64 m]
def kp (f bit x : Int) : Int := if bits .and .i64 f bit == 0 then 0 else x
abbrev row (op a b c m : Int) : Obj := .cells #[.int .i64 op, .int .i64 a, .int .i64 b, .int .i64 c, .int .i64 m] 92
def fld (f bit x lo hi : Int) : Bool := if (f / bit % 2 == 0) = true then x == 0 else decide (lo ≤ x) && decide (x ≤ hi)
theorem field (f bit x lo hi : Int) (v : Bool) (w : World) (hf : 0 ≤ f) (hf1 : f < 16) (hb : 1 ≤ bit) (hv : fld f bit x lo hi = v) :
    Calls Try.prog 69 #[.int .i64 f, .int .i64 bit, .int .i64 x, .int .i64 lo, .int .i64 hi] w fun e w' => e = .returned (.bool v) ∧ w' = w := by
  have HV : Hid _ := hv
  clear hv
  unfold fld at HV
  have e : ((f / bit).tmod 2 == 0) = (f / bit % 2 == 0) := by rw [Int.tmod_eq_emod_of_nonneg (Int.ediv_nonneg hf (by omega))]
  by_cases hq : (f / bit % 2 == 0) = true
  · rw [if_pos hq] at HV
    rw [hq] at e
    clear hq
    go_enter Try.func69, Try.ntmps69
    go_wp2
    go_ret
    exact ⟨ret_bool HV.out, rfl⟩
  · rw [if_neg hq] at HV
    rw [Bool.not_eq_true] at hq
    rw [hq] at e
    clear hq
    by_cases h : lo ≤ x ∧ x ≤ hi
    · have hh : Hid _ := h
      clear h
      go_enter Try.func69, Try.ntmps69
      go_wp2_with fail
      refine (in_yes _ _ _ _ hh.out.1 hh.out.2).mono ?_
      rintro e w1 ⟨rfl, rfl⟩
      go_wp2
      go_ret
      exact ⟨ret_bool (by rw [← HV.out]; simp [hh.out.1, hh.out.2]), rfl⟩
    · have hh : Hid _ := h
      clear h
      go_enter Try.func69, Try.ntmps69
      go_wp2_with fail
      refine (in_no _ _ _ _ hh.out).mono ?_
      rintro e w1 ⟨rfl, rfl⟩
      go_wp2
      go_ret
      refine ⟨ret_bool (by rw [← HV.out]; have := hh.out; rw [← Bool.decide_and, eq_comm, decide_eq_false_iff_not]; exact this), rfl⟩
theorem new_cell (w : World) (cs : Array Value) (t : TypeId) (i : Nat) (v : Value) (h : cs[i]? = some v) : (w.alloc (.cells cs t)).cell? ⟨w.heap.size, i, none⟩ = some v := by
  simp [h]
theorem bit_eq : ∀ n : Fin 16, ∀ b : Fin 4, (bits .and .i64 (n.val : Int) ((2 ^ b.val : Nat) : Int) == 0) = ((n.val : Int) / ((2 ^ b.val : Nat) : Int) % 2 == 0) := by decide +kernel
theorem form_lt : ∀ k : Fin 33, 0 ≤ forms.getD k.val 0 ∧ forms.getD k.val 0 < 16 := by decide +kernel
theorem fld_kp (f x lo hi : Int) (b : Fin 4) (bit : Int) (hb : bit = ((2 ^ b.val : Nat) : Int)) (h0 : 0 ≤ f) (h1 : f < 16) (hl : lo ≤ 0) (hh : 0 ≤ hi) :
    fld f bit x lo hi = ((decide (lo ≤ x) && decide (x ≤ hi)) && (x == kp f bit x)) := by
  subst hb
  obtain ⟨n, rfl⟩ := Int.eq_ofNat_of_zero_le h0
  have e := bit_eq ⟨n, by omega⟩ b
  simp only at e
  unfold fld kp
  rw [e]
  generalize ((n : Int) / ((2 ^ b.val : Nat) : Int) % 2 == 0) = q
  cases q
  · simp
  · by_cases hx : x = 0
    · subst hx; simp [hl, hh]
    · simp [hx]
def instrOk (op a b c m : Int) : Bool := (decide (0 ≤ op) && decide (op < 33)) && (fld (form op) 1 a 0 15 && (fld (form op) 2 b 0 15 && (fld (form op) 4 c 0 15 && fld (form op) 8 m (-8192) 8191)))
theorem instrOk_yes (k : Nat) (a b c m f : Int) (hk : k < 33) (hf : forms.getD k 0 = f) :
    instrOk k a b c m = (fld f 1 a 0 15 && (fld f 2 b 0 15 && (fld f 4 c 0 15 && fld f 8 m (-8192) 8191))) := by
  have e : form (k : Int) = f := by unfold form; rw [Int.toNat_natCast]; exact hf
  unfold instrOk
  rw [e, decide_eq_true (by omega), decide_eq_true (by omega)]
  rfl
theorem instrOk_no (op a b c m : Int) (h : ¬ (0 ≤ op ∧ op < 33)) : instrOk op a b c m = false := by
  unfold instrOk
  rw [← Bool.decide_and, decide_eq_false h]
  rfl
theorem instrOk_far (k : Nat) (a b c m f : Int) (hk : k < 33) (hf : forms.getD k 0 = f) (hr : ¬ (0 ≤ a ∧ a ≤ 15 ∧ 0 ≤ b ∧ b ≤ 15 ∧ 0 ≤ c ∧ c ≤ 15 ∧ -8192 ≤ m ∧ m ≤ 8191)) :
    instrOk k a b c m = false := by
  have hb := form_lt ⟨k, hk⟩
  simp only [hf] at hb
  rw [instrOk_yes k a b c m f hk hf, fld_kp f a 0 15 0 1 rfl hb.1 hb.2 (by omega) (by omega), fld_kp f b 0 15 1 2 rfl hb.1 hb.2 (by omega) (by omega), fld_kp f c 0 15 2 4 rfl hb.1 hb.2 (by omega) (by omega), fld_kp f m (-8192) 8191 3 8 rfl hb.1 hb.2 (by omega) (by omega)]
  rw [Bool.eq_false_iff]
  intro e
  simp only [Bool.and_eq_true, decide_eq_true_eq] at e
  exact hr ⟨e.1.1.1, e.1.1.2, e.2.1.1.1, e.2.1.1.2, e.2.2.1.1.1, e.2.2.1.1.2, e.2.2.2.1.1, e.2.2.2.1.2⟩
set_option maxHeartbeats 400000 in
theorem spec_ok (op a b c m : Int) (w : World) : Calls Try.prog 66 #[ins op a b c m] w fun e w' => e = .returned (.bool (instrOk op a b c m)) ∧ Below w.heap.size w w' := by
  by_cases h : 0 ≤ op ∧ op < 33
  · obtain ⟨k, rfl⟩ := Int.eq_ofNat_of_zero_le h.1
    have hk : k < 33 := by omega
    obtain ⟨f, hf⟩ : ∃ f, forms.getD k 0 = f := ⟨_, rfl⟩
    have HF : Hid _ := hf
    have hb := form_lt ⟨k, hk⟩
    simp only [hf] at hb
    obtain ⟨f0, f1⟩ := hb
    have HE : Hid _ := instrOk_yes k a b c m f hk hf
    obtain ⟨q1, Q1⟩ : ∃ q, Hid (fld f 1 a 0 15 = q) := ⟨_, rfl⟩
    obtain ⟨q2, Q2⟩ : ∃ q, Hid (fld f 2 b 0 15 = q) := ⟨_, rfl⟩
    obtain ⟨q3, Q3⟩ : ∃ q, Hid (fld f 4 c 0 15 = q) := ⟨_, rfl⟩
    obtain ⟨q4, Q4⟩ : ∃ q, Hid (fld f 8 m (-8192) 8191 = q) := ⟨_, rfl⟩
    rw [HE.out, Q1.out, Q2.out, Q3.out, Q4.out]
    clear h hf HE
    go_enter Try.func66, Try.ntmps66
    go_wp2_with fail
    refine (spec_form k f _ hk HF.out).mono ?_
    rintro e w1 ⟨rfl, hb⟩
    have hb0 := ((Below.refl _ w).alloc (Nat.le_refl _) (row k a b c m)).trans (hb.mono (by simp))
    have hr : ∀ i v, (#[Value.int .i64 k, .int .i64 a, .int .i64 b, .int .i64 c, .int .i64 m] : Array Value)[i]? = some v → w1.cell? ⟨w.heap.size, i, none⟩ = some v := fun i v h =>
      (hb.cell (p := ⟨w.heap.size, i, none⟩) (by simp)).trans (new_cell w _ 92 i v h)
    have c1 := hr 1 _ rfl
    have c2 := hr 2 _ rfl
    have c3 := hr 3 _ rfl
    have c4 := hr 4 _ rfl
    clear hr hb
    go_wp2_with fail
    refine (field f 1 a 0 15 q1 _ f0 f1 (by omega) Q1.out).mono ?_
    rintro e w2 ⟨rfl, rfl⟩
    cases q1
    · go_wp2
      go_ret
      exact ⟨rfl, hb0⟩
    go_wp2_with fail
    refine (field f 2 b 0 15 q2 _ f0 f1 (by omega) Q2.out).mono ?_
    rintro e w2 ⟨rfl, rfl⟩
    cases q2
    · go_wp2
      go_ret
      exact ⟨rfl, hb0⟩
    go_wp2_with fail
    refine (field f 4 c 0 15 q3 _ f0 f1 (by omega) Q3.out).mono ?_
    rintro e w2 ⟨rfl, rfl⟩
    cases q3
    · go_wp2
      go_ret
      exact ⟨rfl, hb0⟩
    go_wp2_with fail
    refine (field f 8 m (-8192) 8191 q4 _ f0 f1 (by omega) Q4.out).mono ?_
    rintro e w2 ⟨rfl, rfl⟩
    go_wp2
    go_ret
    exact ⟨rfl, hb0⟩
  · have HN : Hid _ := instrOk_no op a b c m h
    have H2 : Hid (¬ (0 ≤ op ∧ op ≤ 32)) := fun g => h ⟨g.1, by omega⟩
    rw [HN.out]
    clear h HN
    go_enter Try.func66, Try.ntmps66
    go_wp2_with fail
    refine (spec_form_no op _ H2.out).mono ?_
    rintro e w1 ⟨rfl, rfl⟩
    go_wp2
    go_ret
    exact ⟨rfl, (Below.refl _ w).alloc (Nat.le_refl _) _⟩
theorem instrOk_bounds (op a b c m : Int) (h : instrOk op a b c m = true) : 0 ≤ op ∧ op ≤ 32 ∧ 0 ≤ a ∧ a ≤ 15 ∧ 0 ≤ b ∧ b ≤ 15 ∧ 0 ≤ c ∧ c ≤ 15 ∧ -8192 ≤ m ∧ m ≤ 8191 := by
  by_cases ho : 0 ≤ op ∧ op < 33
  · obtain ⟨k, rfl⟩ := Int.eq_ofNat_of_zero_le ho.1
    by_cases hr : 0 ≤ a ∧ a ≤ 15 ∧ 0 ≤ b ∧ b ≤ 15 ∧ 0 ≤ c ∧ c ≤ 15 ∧ -8192 ≤ m ∧ m ≤ 8191
    · exact ⟨ho.1, by omega, hr⟩
    · rw [instrOk_far k a b c m _ (by omega) rfl hr] at h
      cases h
  · rw [instrOk_no op a b c m ho] at h
    cases h
def code (op a b c m : Int) : Int := op * 67108864 + a * 4194304 + b * 262144 + c * 16384 + m % 16384
theorem mod_any (m : Int) (w : World) (h1 : -8192 ≤ m) (h2 : m ≤ 8191) : Calls Try.prog 67 #[.int .i64 m, .int .i64 16384] w fun e w' => e = .returned (.int .i64 (m % 16384)) ∧ w' = w := by
  by_cases h : 0 ≤ m
  · have e : m.tmod 16384 = m % 16384 := Int.tmod_eq_emod_of_nonneg h
    have g : ¬ m.tmod 16384 < 0 := by omega
    clear e
    go_enter Try.func67, Try.ntmps67
    go_wp2
    go_ret
    exact ⟨rfl, rfl⟩
  · have e : m.tmod 16384 = m := by
      have := Int.neg_tmod m 16384
      rw [Int.tmod_eq_emod_of_nonneg (by omega)] at this
      omega
    have HE : Hid (m + 16384 = m % 16384) := by show _ = _; omega
    have g : m.tmod 16384 < 0 := by omega
    go_enter Try.func67, Try.ntmps67
    go_wp2
    go_ret
    exact ⟨ret_int HE.out, rfl⟩
set_option maxHeartbeats 400000 in
theorem spec_enc (op a b c m : Int) (w : World) (h : instrOk op a b c m = true) : Calls Try.prog 63 #[ins op a b c m] w fun e w' => e = .returned (.tuple #[.int .u32 (code op a b c m), .bool true]) ∧ Below w.heap.size w w' := by
  obtain ⟨h1, h2, h3, h4, h5, h6, h7, h8, h9, h10⟩ := instrOk_bounds op a b c m h
  have HQ : Hid _ := h
  clear h
  go_enter Try.func63, Try.ntmps63
  go_wp2_with fail
  refine (spec_ok op a b c m _).mono ?_
  rintro e w1 ⟨rfl, hb⟩
  rw [HQ.out]
  have hb0 := ((Below.refl _ w).alloc (Nat.le_refl _) (row op a b c m)).trans (hb.mono (by simp))
  have hr : ∀ i v, (#[Value.int .i64 op, .int .i64 a, .int .i64 b, .int .i64 c, .int .i64 m] : Array Value)[i]? = some v → w1.cell? ⟨w.heap.size, i, none⟩ = some v := fun i v h =>
    (hb.cell (p := ⟨w.heap.size, i, none⟩) (by simp)).trans (new_cell w _ 92 i v h)
  have c0 := hr 0 (.int .i64 op) rfl
  have c1 := hr 1 (.int .i64 a) rfl
  have c2 := hr 2 (.int .i64 b) rfl
  have c3 := hr 3 (.int .i64 c) rfl
  have c4 := hr 4 (.int .i64 m) rfl
  clear hr hb
  go_wp2
  go_quiet (first | (go_at_call 67; refine Calls.quiet_of_same (mod_any m _ h9 h10)))
  go_wp2
  go_ret2
  exact ⟨rfl, below_drewN hb0 _⟩
theorem spec_enc_no (op a b c m : Int) (w : World) (h : instrOk op a b c m = false) : Calls Try.prog 63 #[ins op a b c m] w fun e w' => e = .returned (.tuple #[.int .u32 0, .bool false]) ∧ Below w.heap.size w w' := by
  have HQ : Hid _ := h
  clear h
  go_enter Try.func63, Try.ntmps63
  go_wp2_with fail
  refine (spec_ok op a b c m _).mono ?_
  rintro e w1 ⟨rfl, hb⟩
  rw [HQ.out]
  have hb0 := ((Below.refl _ w).alloc (Nat.le_refl _) (row op a b c m)).trans (hb.mono (by simp))
  go_wp2
  go_ret2
  exact ⟨rfl, hb0⟩
end Iy
end Go.Proofs.Ytanffdedignegaa
namespace Go.Proofs.Ytanffdedignegaa
open Go.ChangeShapes Go.WideShapes Go.ChangeAt Go.RowKit Go.Deep
set_option linter.unusedVariables false
set_option maxRecDepth 20000

theorem Turn.set_new {B : Nat} {a w : World} (h : Turn B a w) (k o : Nat) (v : Value) (hk : a.heap.size ≤ k) : Turn B a (w.setCell ⟨k, o, none⟩ v) := by
  have hb : Below a.heap.size w (w.setCell ⟨k, o, none⟩ v) := (Below.refl _ w).setCell (p := ⟨k, o, none⟩) hk v
  exact ⟨hb.os.trans h.os, hb.tape.trans h.tape, hb.output.trans h.output, Nat.le_trans h.size hb.size, fun j hj hn => (hb.block j hj).trans (h.block j hj hn)⟩
theorem Cur.set_other {w : World} {B : Nat} {a : Option Addr} {zs : List Int} {cap : Nat} (h : Cur w B a zs cap) (k o : Nat) (v : Value) (hne : k ≠ B) (hs : ∀ b off, a = some ⟨b, off, none⟩ → 0 < zs.length → b ≠ k) : Cur (w.setCell ⟨k, o, none⟩ v) B a zs cap := by
  have hx : ∀ i, (w.setCell ⟨k, o, none⟩ v).cell? ⟨B, i, none⟩ = w.cell? ⟨B, i, none⟩ := fun i => World.cell?_setCell_other _ _ _ _ (by intro c; injection c with c1 c2 c3; exact hne c1)
  obtain ⟨i, hi, e1⟩ := h.c1
  obtain ⟨x, e2⟩ := h.c2
  exact ⟨by simpa using h.lt, (hx 0).trans h.c0, ⟨i, hi, (hx 1).trans e1⟩, ⟨x, (hx 2).trans e2⟩, fun i => by simpa using h.free i, h.seg.turn ((Turn.refl k w).setCell o v) hs, h.far, h.byte, h.small⟩
namespace Iy
theorem cell_alloc {w : World} {a : Addr} {v : Value} {o : Obj} (h : w.cell? a = some v) : (w.alloc o).cell? a = some v :=
  (((Below.refl _ w).alloc (Nat.le_refl _) o).cell (World.block_lt_of_cell? w _ h)).trans h
theorem form_seven : ∀ k : Fin 33, forms.getD k.val 0 = 0 ∨ forms.getD k.val 0 = 7 ∨ forms.getD k.val 0 = 11 ∨ forms.getD k.val 0 = 9 ∨ forms.getD k.val 0 = 10 ∨ forms.getD k.val 0 = 1 ∨ forms.getD k.val 0 = 8 := by decide +kernel
/-- The world of a draw of an instruction: the answer's cells, the instruction so far. -/
structure DI (w wr : World) (B rb ib : Nat) (ad : Option Addr) (zs : List Int) (cap : Nat) (o x y z m : Int) : Prop where
  turn : Turn B w wr
  cur : Cur wr B ad zs cap
  hB : B < w.heap.size
  hrb : w.heap.size ≤ rb
  hib : w.heap.size ≤ ib
  rlt : rb < wr.heap.size
  ilt : ib < wr.heap.size
  ne : rb ≠ ib
  seg : ∀ b off, ad = some ⟨b, off, none⟩ → 0 < zs.length → b < w.heap.size
  rc : ∀ i v, (#[Value.int .i64 0, .int .i64 0, .int .i64 0, .int .i64 0, .int .i64 0] : Array Value)[i]? = some v → wr.cell? ⟨rb, i, none⟩ = some v
  rf : ∀ i, wr.frozen? ⟨rb, i, none⟩ = false
  ic : ∀ i v, (#[Value.int .i64 o, .int .i64 x, .int .i64 y, .int .i64 z, .int .i64 m] : Array Value)[i]? = some v → wr.cell? ⟨ib, i, none⟩ = some v
  ifr : ∀ i, wr.frozen? ⟨ib, i, none⟩ = false
theorem DI.hop {w wr w2 : World} {B rb ib : Nat} {ad : Option Addr} {zs : List Int} {cap : Nat} {o x y z m : Int} (h : DI w wr B rb ib ad zs cap o x y z m) (ht : Turn B wr w2) (hc : Cur w2 B ad zs cap) : DI w w2 B rb ib ad zs cap o x y z m := by
  have h1 : rb ≠ B := by have := h.hB; have := h.hrb; omega
  have h2 : ib ≠ B := by have := h.hB; have := h.hib; omega
  exact ⟨h.turn.trans ht, hc, h.hB, h.hrb, h.hib, Nat.lt_of_lt_of_le h.rlt ht.size, Nat.lt_of_lt_of_le h.ilt ht.size, h.ne, h.seg, fun i v e => (ht.cell h.rlt h1).trans (h.rc i v e), fun i => (ht.frozen h.rlt h1).trans (h.rf i), fun i v e => (ht.cell h.ilt h2).trans (h.ic i v e), fun i => (ht.frozen h.ilt h2).trans (h.ifr i)⟩
theorem DI.set {w wr : World} {B rb ib : Nat} {ad : Option Addr} {zs : List Int} {cap : Nat} {o x y z m o' x' y' z' m' n : Int} (j : Nat) (h : DI w wr B rb ib ad zs cap o x y z m) (hj : j < 5)
    (e : (#[Value.int .i64 o, .int .i64 x, .int .i64 y, .int .i64 z, .int .i64 m] : Array Value).set! j (.int .i64 n) = #[.int .i64 o', .int .i64 x', .int .i64 y', .int .i64 z', .int .i64 m']) :
    DI w (wr.setCell ⟨ib, j, none⟩ (.int .i64 n)) B rb ib ad zs cap o' x' y' z' m' := by
  have h2 : ib ≠ B := by have := h.hB; have := h.hib; omega
  obtain ⟨u, hu⟩ : ∃ u, wr.cell? ⟨ib, j, none⟩ = some u := by
    obtain rfl | rfl | rfl | rfl | rfl : j = 0 ∨ j = 1 ∨ j = 2 ∨ j = 3 ∨ j = 4 := by omega
    · exact ⟨_, h.ic 0 _ rfl⟩
    · exact ⟨_, h.ic 1 _ rfl⟩
    · exact ⟨_, h.ic 2 _ rfl⟩
    · exact ⟨_, h.ic 3 _ rfl⟩
    · exact ⟨_, h.ic 4 _ rfl⟩
  refine ⟨h.turn.set_new ib j _ h.hib, h.cur.set_other ib j _ h2 (fun b off he hz => by have := h.seg b off he hz; have := h.hib; omega), h.hB, h.hrb, h.hib, by simpa using h.rlt, by simpa using h.ilt, h.ne, h.seg, fun i v he => ?_, fun i => by simpa using h.rf i, fun i v he => ?_, fun i => by simpa using h.ifr i⟩
  · rw [World.cell?_setCell_other _ _ _ _ (by intro c; injection c with c1 c2 c3; exact h.ne c1.symm)]
    exact h.rc i v he
  · by_cases c : j = i
    · subst c
      rw [World.cell?_setCell_same _ _ _ hu]
      rw [← e] at he
      simpa [hj] using he
    · rw [World.cell?_setCell_other _ _ _ _ (by intro c'; injection c' with c1 c2 c3; exact c c2)]
      apply h.ic i v
      rw [← e] at he
      simpa [c] using he
theorem DI.ret {w wr : World} {B rb ib : Nat} {ad : Option Addr} {zs : List Int} {cap : Nat} {o x y z m : Int} (h : DI w wr B rb ib ad zs cap o x y z m) (v0 v1 v2 v3 v4 : Value) :
    Cur (((((wr.setCell ⟨rb, 0, none⟩ v0).setCell ⟨rb, 1, none⟩ v1).setCell ⟨rb, 2, none⟩ v2).setCell ⟨rb, 3, none⟩ v3).setCell ⟨rb, 4, none⟩ v4) B ad zs cap ∧
    Turn B w (((((wr.setCell ⟨rb, 0, none⟩ v0).setCell ⟨rb, 1, none⟩ v1).setCell ⟨rb, 2, none⟩ v2).setCell ⟨rb, 3, none⟩ v3).setCell ⟨rb, 4, none⟩ v4) := by
  have h1 : rb ≠ B := by have := h.hB; have := h.hrb; omega
  have hs : ∀ b off, ad = some ⟨b, off, none⟩ → 0 < zs.length → b ≠ rb := fun b off he hz => by have := h.seg b off he hz; have := h.hrb; omega
  exact ⟨((((h.cur.set_other rb 0 _ h1 hs).set_other rb 1 _ h1 hs).set_other rb 2 _ h1 hs).set_other rb 3 _ h1 hs).set_other rb 4 _ h1 hs,
    ((((h.turn.set_new rb 0 _ h.hrb).set_new rb 1 _ h.hrb).set_new rb 2 _ h.hrb).set_new rb 3 _ h.hrb).set_new rb 4 _ h.hrb⟩
theorem DI.start {w w1 w2 : World} {B : Nat} {ad : Option Addr} {zs : List Int} {cap : Nat} {o x y z m : Int} (hc : Cur w B ad zs cap) (ht : Turn B (w.alloc (.cells #[Value.int .i64 0, .int .i64 0, .int .i64 0, .int .i64 0, .int .i64 0] 92)) w1) (hc1 : Cur w1 B ad zs cap)
    (ht2 : Turn B (w1.alloc (row o x y z m)) w2) (hc2 : Cur w2 B ad zs cap) : DI w w2 B w.heap.size w1.heap.size ad zs cap o x y z m := by
  have hB := hc.lt
  have hB1 := hc1.lt
  have s1 := ht.size
  have s2 := ht2.size
  simp at s1 s2
  have hrb : w.heap.size ≠ B := by omega
  have hib : w1.heap.size ≠ B := by omega
  refine ⟨(((Turn.refl B w).alloc _).trans ht).trans (((Turn.refl B w1).alloc _).trans ht2), hc2, hB, Nat.le_refl _, by omega, by omega, by omega, by omega, seg_lt hc.seg, fun i v h => ?_, fun i => ?_, fun i v h => ?_, fun i => ?_⟩
  · rw [ht2.cell (by simp; omega) hrb]
    exact cell_alloc ((ht.cell (by simp) hrb).trans (new_cell w _ 92 i v h))
  · rw [ht2.frozen (by simp; omega) hrb]
    have := (ht.frozen (o := i) (by simp) hrb).trans (by simp : (w.alloc (.cells #[Value.int .i64 0, .int .i64 0, .int .i64 0, .int .i64 0, .int .i64 0] 92)).frozen? ⟨w.heap.size, i, none⟩ = false)
    exact (((Below.refl _ w1).alloc (Nat.le_refl _) _).frozen (p := ⟨w.heap.size, i, none⟩) (by simp; omega)).trans this
  · rw [ht2.cell (by simp) hib]
    exact new_cell w1 _ 92 i v h
  · rw [ht2.frozen (by simp) hib]
    simp
set_option maxHeartbeats 4000000 in
theorem draw_ins (w : World) (B : Nat) (ad : Option Addr) (zs : List Int) (cap : Nat) (hc : Cur w B ad zs cap) :
    Calls Try.prog 62 #[.pointer (some ⟨B, 0, none⟩)] w fun e w' => ∃ op a b c m, e = .returned (ins op a b c m) ∧ Cur w' B ad zs cap ∧ Turn B w w' := by
  have HC : Hid _ := hc
  clear hc
  go_enter Try.func62, Try.ntmps62
  go_wp2_with fail
  refine (draw_below _ B _ _ _ 33 (HC.out.below ((Below.refl _ _).alloc (Nat.le_refl _) _)) (by omega) (by omega)).mono ?_
  rintro e w1 ⟨x, rfl, hx0, hx1, hc1, ht1⟩
  obtain ⟨k, rfl⟩ := Int.eq_ofNat_of_zero_le hx0
  have hk : k < 33 := by omega
  have HC1 : Hid _ := hc1
  have HT1 : Hid _ := ht1
  clear hc1 ht1
  rcases form_seven ⟨k, hk⟩ with hf | hf | hf | hf | hf | hf | hf
  · have HF : Hid (forms.getD k 0 = 0) := hf
    clear hf
    go_wp2_with fail
    refine (spec_form k 0 _ hk HF.out).mono ?_
    rintro e w2 ⟨rfl, hb2⟩
    have HD2 : Hid _ := DI.start HC.out HT1.out HC1.out (Turn.of_below hb2) (Cur.below (Cur.below HC1.out ((Below.refl _ _).alloc (Nat.le_refl _) _)) hb2)
    clear hb2
    have i0 := HD2.out.ic 0 _ rfl
    have r0 := HD2.out.rc 0 _ rfl
    have i1 := HD2.out.ic 1 _ rfl
    have r1 := HD2.out.rc 1 _ rfl
    have i2 := HD2.out.ic 2 _ rfl
    have r2 := HD2.out.rc 2 _ rfl
    have i3 := HD2.out.ic 3 _ rfl
    have r3 := HD2.out.rc 3 _ rfl
    have i4 := HD2.out.ic 4 _ rfl
    have r4 := HD2.out.rc 4 _ rfl
    have hif := HD2.out.ifr
    have hrf := HD2.out.rf
    have HE : Hid _ := DI.ret HD2.out
    go_wp2
    exact bodyPost_ret (v := ins k 0 0 0 0) (by simp [results, Try.results62, go_sem, r0, r1, r2, r3, r4]) rfl ⟨_, _, _, _, _, rfl, HE.out _ _ _ _ _⟩
  · have HF : Hid (forms.getD k 0 = 7) := hf
    clear hf
    go_wp2_with fail
    refine (spec_form k 7 _ hk HF.out).mono ?_
    rintro e w2 ⟨rfl, hb2⟩
    have HD2 : Hid _ := DI.start HC.out HT1.out HC1.out (Turn.of_below hb2) (Cur.below (Cur.below HC1.out ((Below.refl _ _).alloc (Nat.le_refl _) _)) hb2)
    clear hb2
    go_wp2_with fail
    refine (draw_below _ B _ _ _ 16 HD2.out.cur (by omega) (by omega)).mono ?_
    rintro e w3 ⟨va, rfl, hva0, hva1, hcc, htt⟩
    have HE3 : Hid _ := DI.hop HD2.out htt hcc
    clear hcc htt
    have i1 := HE3.out.ic 1 _ rfl
    have hif := HE3.out.ifr
    have HD3 : Hid _ := DI.set (n := va) 1 HE3.out (by omega) (show _ = (#[.int .i64 k, .int .i64 va, .int .i64 0, .int .i64 0, .int .i64 0] : Array Value) from rfl)
    go_wp2_with fail
    refine (draw_below _ B _ _ _ 16 HD3.out.cur (by omega) (by omega)).mono ?_
    rintro e w4 ⟨vb, rfl, hvb0, hvb1, hcc, htt⟩
    have HE4 : Hid _ := DI.hop HD3.out htt hcc
    clear hcc htt
    have i2 := HE4.out.ic 2 _ rfl
    have hif := HE4.out.ifr
    have HD4 : Hid _ := DI.set (n := vb) 2 HE4.out (by omega) (show _ = (#[.int .i64 k, .int .i64 va, .int .i64 vb, .int .i64 0, .int .i64 0] : Array Value) from rfl)
    go_wp2_with fail
    refine (draw_below _ B _ _ _ 16 HD4.out.cur (by omega) (by omega)).mono ?_
    rintro e w5 ⟨vc, rfl, hvc0, hvc1, hcc, htt⟩
    have HE5 : Hid _ := DI.hop HD4.out htt hcc
    clear hcc htt
    have i3 := HE5.out.ic 3 _ rfl
    have hif := HE5.out.ifr
    have HD5 : Hid _ := DI.set (n := vc) 3 HE5.out (by omega) (show _ = (#[.int .i64 k, .int .i64 va, .int .i64 vb, .int .i64 vc, .int .i64 0] : Array Value) from rfl)
    have i0 := HD5.out.ic 0 _ rfl
    have r0 := HD5.out.rc 0 _ rfl
    have i1 := HD5.out.ic 1 _ rfl
    have r1 := HD5.out.rc 1 _ rfl
    have i2 := HD5.out.ic 2 _ rfl
    have r2 := HD5.out.rc 2 _ rfl
    have i3 := HD5.out.ic 3 _ rfl
    have r3 := HD5.out.rc 3 _ rfl
    have i4 := HD5.out.ic 4 _ rfl
    have r4 := HD5.out.rc 4 _ rfl
    have hif := HD5.out.ifr
    have hrf := HD5.out.rf
    have HE : Hid _ := DI.ret HD5.out
    go_wp2
    exact bodyPost_ret (v := ins k va vb vc 0) (by simp [results, Try.results62, go_sem, r0, r1, r2, r3, r4]) rfl ⟨_, _, _, _, _, rfl, HE.out _ _ _ _ _⟩
  · have HF : Hid (forms.getD k 0 = 11) := hf
    clear hf
    go_wp2_with fail
    refine (spec_form k 11 _ hk HF.out).mono ?_
    rintro e w2 ⟨rfl, hb2⟩
    have HD2 : Hid _ := DI.start HC.out HT1.out HC1.out (Turn.of_below hb2) (Cur.below (Cur.below HC1.out ((Below.refl _ _).alloc (Nat.le_refl _) _)) hb2)
    clear hb2
    go_wp2_with fail
    refine (draw_below _ B _ _ _ 16 HD2.out.cur (by omega) (by omega)).mono ?_
    rintro e w3 ⟨va, rfl, hva0, hva1, hcc, htt⟩
    have HE3 : Hid _ := DI.hop HD2.out htt hcc
    clear hcc htt
    have i1 := HE3.out.ic 1 _ rfl
    have hif := HE3.out.ifr
    have HD3 : Hid _ := DI.set (n := va) 1 HE3.out (by omega) (show _ = (#[.int .i64 k, .int .i64 va, .int .i64 0, .int .i64 0, .int .i64 0] : Array Value) from rfl)
    go_wp2_with fail
    refine (draw_below _ B _ _ _ 16 HD3.out.cur (by omega) (by omega)).mono ?_
    rintro e w4 ⟨vb, rfl, hvb0, hvb1, hcc, htt⟩
    have HE4 : Hid _ := DI.hop HD3.out htt hcc
    clear hcc htt
    have i2 := HE4.out.ic 2 _ rfl
    have hif := HE4.out.ifr
    have HD4 : Hid _ := DI.set (n := vb) 2 HE4.out (by omega) (show _ = (#[.int .i64 k, .int .i64 va, .int .i64 vb, .int .i64 0, .int .i64 0] : Array Value) from rfl)
    go_wp2_with fail
    refine (draw_below _ B _ _ _ 17 HD4.out.cur (by omega) (by omega)).mono ?_
    rintro e w5 ⟨vm, rfl, hvm0, hvm1, hcc, htt⟩
    have HE5 : Hid _ := DI.hop HD4.out htt hcc
    clear hcc htt
    have i4 := HE5.out.ic 4 _ rfl
    have hif := HE5.out.ifr
    have HD5 : Hid _ := DI.set (n := vm - 8) 4 HE5.out (by omega) (show _ = (#[.int .i64 k, .int .i64 va, .int .i64 vb, .int .i64 0, .int .i64 ((vm - 8))] : Array Value) from rfl)
    go_wp2_with fail
    refine (draw_below _ B _ _ _ 8 HD5.out.cur (by omega) (by omega)).mono ?_
    rintro e w6 ⟨vs, rfl, hvs0, hvs1, hcc, htt⟩
    have HE6 : Hid _ := DI.hop HD5.out htt hcc
    clear hcc htt
    by_cases h0 : vs = 0
    · have hb : (vs == 0) = true := by simp [h0]
      clear h0
      go_wp2_with fail
      refine (draw_pick _ B w6.heap.size _ _ _ [-8192, 8191, 0] (HE6.out.cur.below ((Below.refl _ _).alloc (Nat.le_refl _) _)) (own_lit .i64 w6 3 _) (by have := HE6.out.cur.lt; omega) (by decide) (by decide)).mono ?_
      rintro e w7 ⟨vp, rfl, hvp, hcc, htt⟩
      have HE7 : Hid _ := DI.hop HE6.out (((Turn.refl _ _).alloc _).trans htt) hcc
      clear hcc htt hvp
      have i4 := HE7.out.ic 4 _ rfl
      have hif := HE7.out.ifr
      have HD7 : Hid _ := DI.set (n := vp) 4 HE7.out (by omega) (show _ = (#[.int .i64 k, .int .i64 va, .int .i64 vb, .int .i64 0, .int .i64 vp] : Array Value) from rfl)
      have i0 := HD7.out.ic 0 _ rfl
      have r0 := HD7.out.rc 0 _ rfl
      have i1 := HD7.out.ic 1 _ rfl
      have r1 := HD7.out.rc 1 _ rfl
      have i2 := HD7.out.ic 2 _ rfl
      have r2 := HD7.out.rc 2 _ rfl
      have i3 := HD7.out.ic 3 _ rfl
      have r3 := HD7.out.rc 3 _ rfl
      have i4 := HD7.out.ic 4 _ rfl
      have r4 := HD7.out.rc 4 _ rfl
      have hif := HD7.out.ifr
      have hrf := HD7.out.rf
      have HE : Hid _ := DI.ret HD7.out
      go_wp2
      exact bodyPost_ret (v := ins k va vb 0 vp) (by simp [results, Try.results62, go_sem, r0, r1, r2, r3, r4]) rfl ⟨_, _, _, _, _, rfl, HE.out _ _ _ _ _⟩
    · have hb : (vs == 0) = false := beq_eq_false_iff_ne.2 h0
      clear h0
      by_cases h1 : vs = 1
      · have hb1 : (vs == 1) = true := by simp [h1]
        clear h1
        go_wp2_with fail
        refine (draw_below _ B _ _ _ 16384 HE6.out.cur (by omega) (by omega)).mono ?_
        rintro e w7 ⟨vq, rfl, hvq0, hvq1, hcc, htt⟩
        have HE7 : Hid _ := DI.hop HE6.out htt hcc
        clear hcc htt
        have i4 := HE7.out.ic 4 _ rfl
        have hif := HE7.out.ifr
        have HD7 : Hid _ := DI.set (n := vq - 8192) 4 HE7.out (by omega) (show _ = (#[.int .i64 k, .int .i64 va, .int .i64 vb, .int .i64 0, .int .i64 ((vq - 8192))] : Array Value) from rfl)
        have i0 := HD7.out.ic 0 _ rfl
        have r0 := HD7.out.rc 0 _ rfl
        have i1 := HD7.out.ic 1 _ rfl
        have r1 := HD7.out.rc 1 _ rfl
        have i2 := HD7.out.ic 2 _ rfl
        have r2 := HD7.out.rc 2 _ rfl
        have i3 := HD7.out.ic 3 _ rfl
        have r3 := HD7.out.rc 3 _ rfl
        have i4 := HD7.out.ic 4 _ rfl
        have r4 := HD7.out.rc 4 _ rfl
        have hif := HD7.out.ifr
        have hrf := HD7.out.rf
        have HE : Hid _ := DI.ret HD7.out
        go_wp2
        exact bodyPost_ret (v := ins k va vb 0 (vq - 8192)) (by simp [results, Try.results62, go_sem, r0, r1, r2, r3, r4]) rfl ⟨_, _, _, _, _, rfl, HE.out _ _ _ _ _⟩
      · have hb1 : (vs == 1) = false := beq_eq_false_iff_ne.2 h1
        clear h1
        have i0 := HE6.out.ic 0 _ rfl
        have r0 := HE6.out.rc 0 _ rfl
        have i1 := HE6.out.ic 1 _ rfl
        have r1 := HE6.out.rc 1 _ rfl
        have i2 := HE6.out.ic 2 _ rfl
        have r2 := HE6.out.rc 2 _ rfl
        have i3 := HE6.out.ic 3 _ rfl
        have r3 := HE6.out.rc 3 _ rfl
        have i4 := HE6.out.ic 4 _ rfl
        have r4 := HE6.out.rc 4 _ rfl
        have hif := HE6.out.ifr
        have hrf := HE6.out.rf
        have HE : Hid _ := DI.ret HE6.out
        go_wp2
        exact bodyPost_ret (v := ins k va vb 0 (vm - 8)) (by simp [results, Try.results62, go_sem, r0, r1, r2, r3, r4]) rfl ⟨_, _, _, _, _, rfl, HE.out _ _ _ _ _⟩
  · have HF : Hid (forms.getD k 0 = 9) := hf
    clear hf
    go_wp2_with fail
    refine (spec_form k 9 _ hk HF.out).mono ?_
    rintro e w2 ⟨rfl, hb2⟩
    have HD2 : Hid _ := DI.start HC.out HT1.out HC1.out (Turn.of_below hb2) (Cur.below (Cur.below HC1.out ((Below.refl _ _).alloc (Nat.le_refl _) _)) hb2)
    clear hb2
    go_wp2_with fail
    refine (draw_below _ B _ _ _ 16 HD2.out.cur (by omega) (by omega)).mono ?_
    rintro e w3 ⟨va, rfl, hva0, hva1, hcc, htt⟩
    have HE3 : Hid _ := DI.hop HD2.out htt hcc
    clear hcc htt
    have i1 := HE3.out.ic 1 _ rfl
    have hif := HE3.out.ifr
    have HD3 : Hid _ := DI.set (n := va) 1 HE3.out (by omega) (show _ = (#[.int .i64 k, .int .i64 va, .int .i64 0, .int .i64 0, .int .i64 0] : Array Value) from rfl)
    go_wp2_with fail
    refine (draw_below _ B _ _ _ 17 HD3.out.cur (by omega) (by omega)).mono ?_
    rintro e w4 ⟨vm, rfl, hvm0, hvm1, hcc, htt⟩
    have HE4 : Hid _ := DI.hop HD3.out htt hcc
    clear hcc htt
    have i4 := HE4.out.ic 4 _ rfl
    have hif := HE4.out.ifr
    have HD4 : Hid _ := DI.set (n := vm - 8) 4 HE4.out (by omega) (show _ = (#[.int .i64 k, .int .i64 va, .int .i64 0, .int .i64 0, .int .i64 ((vm - 8))] : Array Value) from rfl)
    go_wp2_with fail
    refine (draw_below _ B _ _ _ 8 HD4.out.cur (by omega) (by omega)).mono ?_
    rintro e w5 ⟨vs, rfl, hvs0, hvs1, hcc, htt⟩
    have HE5 : Hid _ := DI.hop HD4.out htt hcc
    clear hcc htt
    by_cases h0 : vs = 0
    · have hb : (vs == 0) = true := by simp [h0]
      clear h0
      go_wp2_with fail
      refine (draw_pick _ B w5.heap.size _ _ _ [-8192, 8191, 0] (HE5.out.cur.below ((Below.refl _ _).alloc (Nat.le_refl _) _)) (own_lit .i64 w5 3 _) (by have := HE5.out.cur.lt; omega) (by decide) (by decide)).mono ?_
      rintro e w6 ⟨vp, rfl, hvp, hcc, htt⟩
      have HE6 : Hid _ := DI.hop HE5.out (((Turn.refl _ _).alloc _).trans htt) hcc
      clear hcc htt hvp
      have i4 := HE6.out.ic 4 _ rfl
      have hif := HE6.out.ifr
      have HD6 : Hid _ := DI.set (n := vp) 4 HE6.out (by omega) (show _ = (#[.int .i64 k, .int .i64 va, .int .i64 0, .int .i64 0, .int .i64 vp] : Array Value) from rfl)
      have i0 := HD6.out.ic 0 _ rfl
      have r0 := HD6.out.rc 0 _ rfl
      have i1 := HD6.out.ic 1 _ rfl
      have r1 := HD6.out.rc 1 _ rfl
      have i2 := HD6.out.ic 2 _ rfl
      have r2 := HD6.out.rc 2 _ rfl
      have i3 := HD6.out.ic 3 _ rfl
      have r3 := HD6.out.rc 3 _ rfl
      have i4 := HD6.out.ic 4 _ rfl
      have r4 := HD6.out.rc 4 _ rfl
      have hif := HD6.out.ifr
      have hrf := HD6.out.rf
      have HE : Hid _ := DI.ret HD6.out
      go_wp2
      exact bodyPost_ret (v := ins k va 0 0 vp) (by simp [results, Try.results62, go_sem, r0, r1, r2, r3, r4]) rfl ⟨_, _, _, _, _, rfl, HE.out _ _ _ _ _⟩
    · have hb : (vs == 0) = false := beq_eq_false_iff_ne.2 h0
      clear h0
      by_cases h1 : vs = 1
      · have hb1 : (vs == 1) = true := by simp [h1]
        clear h1
        go_wp2_with fail
        refine (draw_below _ B _ _ _ 16384 HE5.out.cur (by omega) (by omega)).mono ?_
        rintro e w6 ⟨vq, rfl, hvq0, hvq1, hcc, htt⟩
        have HE6 : Hid _ := DI.hop HE5.out htt hcc
        clear hcc htt
        have i4 := HE6.out.ic 4 _ rfl
        have hif := HE6.out.ifr
        have HD6 : Hid _ := DI.set (n := vq - 8192) 4 HE6.out (by omega) (show _ = (#[.int .i64 k, .int .i64 va, .int .i64 0, .int .i64 0, .int .i64 ((vq - 8192))] : Array Value) from rfl)
        have i0 := HD6.out.ic 0 _ rfl
        have r0 := HD6.out.rc 0 _ rfl
        have i1 := HD6.out.ic 1 _ rfl
        have r1 := HD6.out.rc 1 _ rfl
        have i2 := HD6.out.ic 2 _ rfl
        have r2 := HD6.out.rc 2 _ rfl
        have i3 := HD6.out.ic 3 _ rfl
        have r3 := HD6.out.rc 3 _ rfl
        have i4 := HD6.out.ic 4 _ rfl
        have r4 := HD6.out.rc 4 _ rfl
        have hif := HD6.out.ifr
        have hrf := HD6.out.rf
        have HE : Hid _ := DI.ret HD6.out
        go_wp2
        exact bodyPost_ret (v := ins k va 0 0 (vq - 8192)) (by simp [results, Try.results62, go_sem, r0, r1, r2, r3, r4]) rfl ⟨_, _, _, _, _, rfl, HE.out _ _ _ _ _⟩
      · have hb1 : (vs == 1) = false := beq_eq_false_iff_ne.2 h1
        clear h1
        have i0 := HE5.out.ic 0 _ rfl
        have r0 := HE5.out.rc 0 _ rfl
        have i1 := HE5.out.ic 1 _ rfl
        have r1 := HE5.out.rc 1 _ rfl
        have i2 := HE5.out.ic 2 _ rfl
        have r2 := HE5.out.rc 2 _ rfl
        have i3 := HE5.out.ic 3 _ rfl
        have r3 := HE5.out.rc 3 _ rfl
        have i4 := HE5.out.ic 4 _ rfl
        have r4 := HE5.out.rc 4 _ rfl
        have hif := HE5.out.ifr
        have hrf := HE5.out.rf
        have HE : Hid _ := DI.ret HE5.out
        go_wp2
        exact bodyPost_ret (v := ins k va 0 0 (vm - 8)) (by simp [results, Try.results62, go_sem, r0, r1, r2, r3, r4]) rfl ⟨_, _, _, _, _, rfl, HE.out _ _ _ _ _⟩
  · have HF : Hid (forms.getD k 0 = 10) := hf
    clear hf
    go_wp2_with fail
    refine (spec_form k 10 _ hk HF.out).mono ?_
    rintro e w2 ⟨rfl, hb2⟩
    have HD2 : Hid _ := DI.start HC.out HT1.out HC1.out (Turn.of_below hb2) (Cur.below (Cur.below HC1.out ((Below.refl _ _).alloc (Nat.le_refl _) _)) hb2)
    clear hb2
    go_wp2_with fail
    refine (draw_below _ B _ _ _ 16 HD2.out.cur (by omega) (by omega)).mono ?_
    rintro e w3 ⟨vb, rfl, hvb0, hvb1, hcc, htt⟩
    have HE3 : Hid _ := DI.hop HD2.out htt hcc
    clear hcc htt
    have i2 := HE3.out.ic 2 _ rfl
    have hif := HE3.out.ifr
    have HD3 : Hid _ := DI.set (n := vb) 2 HE3.out (by omega) (show _ = (#[.int .i64 k, .int .i64 0, .int .i64 vb, .int .i64 0, .int .i64 0] : Array Value) from rfl)
    go_wp2_with fail
    refine (draw_below _ B _ _ _ 17 HD3.out.cur (by omega) (by omega)).mono ?_
    rintro e w4 ⟨vm, rfl, hvm0, hvm1, hcc, htt⟩
    have HE4 : Hid _ := DI.hop HD3.out htt hcc
    clear hcc htt
    have i4 := HE4.out.ic 4 _ rfl
    have hif := HE4.out.ifr
    have HD4 : Hid _ := DI.set (n := vm - 8) 4 HE4.out (by omega) (show _ = (#[.int .i64 k, .int .i64 0, .int .i64 vb, .int .i64 0, .int .i64 ((vm - 8))] : Array Value) from rfl)
    go_wp2_with fail
    refine (draw_below _ B _ _ _ 8 HD4.out.cur (by omega) (by omega)).mono ?_
    rintro e w5 ⟨vs, rfl, hvs0, hvs1, hcc, htt⟩
    have HE5 : Hid _ := DI.hop HD4.out htt hcc
    clear hcc htt
    by_cases h0 : vs = 0
    · have hb : (vs == 0) = true := by simp [h0]
      clear h0
      go_wp2_with fail
      refine (draw_pick _ B w5.heap.size _ _ _ [-8192, 8191, 0] (HE5.out.cur.below ((Below.refl _ _).alloc (Nat.le_refl _) _)) (own_lit .i64 w5 3 _) (by have := HE5.out.cur.lt; omega) (by decide) (by decide)).mono ?_
      rintro e w6 ⟨vp, rfl, hvp, hcc, htt⟩
      have HE6 : Hid _ := DI.hop HE5.out (((Turn.refl _ _).alloc _).trans htt) hcc
      clear hcc htt hvp
      have i4 := HE6.out.ic 4 _ rfl
      have hif := HE6.out.ifr
      have HD6 : Hid _ := DI.set (n := vp) 4 HE6.out (by omega) (show _ = (#[.int .i64 k, .int .i64 0, .int .i64 vb, .int .i64 0, .int .i64 vp] : Array Value) from rfl)
      have i0 := HD6.out.ic 0 _ rfl
      have r0 := HD6.out.rc 0 _ rfl
      have i1 := HD6.out.ic 1 _ rfl
      have r1 := HD6.out.rc 1 _ rfl
      have i2 := HD6.out.ic 2 _ rfl
      have r2 := HD6.out.rc 2 _ rfl
      have i3 := HD6.out.ic 3 _ rfl
      have r3 := HD6.out.rc 3 _ rfl
      have i4 := HD6.out.ic 4 _ rfl
      have r4 := HD6.out.rc 4 _ rfl
      have hif := HD6.out.ifr
      have hrf := HD6.out.rf
      have HE : Hid _ := DI.ret HD6.out
      go_wp2
      exact bodyPost_ret (v := ins k 0 vb 0 vp) (by simp [results, Try.results62, go_sem, r0, r1, r2, r3, r4]) rfl ⟨_, _, _, _, _, rfl, HE.out _ _ _ _ _⟩
    · have hb : (vs == 0) = false := beq_eq_false_iff_ne.2 h0
      clear h0
      by_cases h1 : vs = 1
      · have hb1 : (vs == 1) = true := by simp [h1]
        clear h1
        go_wp2_with fail
        refine (draw_below _ B _ _ _ 16384 HE5.out.cur (by omega) (by omega)).mono ?_
        rintro e w6 ⟨vq, rfl, hvq0, hvq1, hcc, htt⟩
        have HE6 : Hid _ := DI.hop HE5.out htt hcc
        clear hcc htt
        have i4 := HE6.out.ic 4 _ rfl
        have hif := HE6.out.ifr
        have HD6 : Hid _ := DI.set (n := vq - 8192) 4 HE6.out (by omega) (show _ = (#[.int .i64 k, .int .i64 0, .int .i64 vb, .int .i64 0, .int .i64 ((vq - 8192))] : Array Value) from rfl)
        have i0 := HD6.out.ic 0 _ rfl
        have r0 := HD6.out.rc 0 _ rfl
        have i1 := HD6.out.ic 1 _ rfl
        have r1 := HD6.out.rc 1 _ rfl
        have i2 := HD6.out.ic 2 _ rfl
        have r2 := HD6.out.rc 2 _ rfl
        have i3 := HD6.out.ic 3 _ rfl
        have r3 := HD6.out.rc 3 _ rfl
        have i4 := HD6.out.ic 4 _ rfl
        have r4 := HD6.out.rc 4 _ rfl
        have hif := HD6.out.ifr
        have hrf := HD6.out.rf
        have HE : Hid _ := DI.ret HD6.out
        go_wp2
        exact bodyPost_ret (v := ins k 0 vb 0 (vq - 8192)) (by simp [results, Try.results62, go_sem, r0, r1, r2, r3, r4]) rfl ⟨_, _, _, _, _, rfl, HE.out _ _ _ _ _⟩
      · have hb1 : (vs == 1) = false := beq_eq_false_iff_ne.2 h1
        clear h1
        have i0 := HE5.out.ic 0 _ rfl
        have r0 := HE5.out.rc 0 _ rfl
        have i1 := HE5.out.ic 1 _ rfl
        have r1 := HE5.out.rc 1 _ rfl
        have i2 := HE5.out.ic 2 _ rfl
        have r2 := HE5.out.rc 2 _ rfl
        have i3 := HE5.out.ic 3 _ rfl
        have r3 := HE5.out.rc 3 _ rfl
        have i4 := HE5.out.ic 4 _ rfl
        have r4 := HE5.out.rc 4 _ rfl
        have hif := HE5.out.ifr
        have hrf := HE5.out.rf
        have HE : Hid _ := DI.ret HE5.out
        go_wp2
        exact bodyPost_ret (v := ins k 0 vb 0 (vm - 8)) (by simp [results, Try.results62, go_sem, r0, r1, r2, r3, r4]) rfl ⟨_, _, _, _, _, rfl, HE.out _ _ _ _ _⟩
  · have HF : Hid (forms.getD k 0 = 1) := hf
    clear hf
    go_wp2_with fail
    refine (spec_form k 1 _ hk HF.out).mono ?_
    rintro e w2 ⟨rfl, hb2⟩
    have HD2 : Hid _ := DI.start HC.out HT1.out HC1.out (Turn.of_below hb2) (Cur.below (Cur.below HC1.out ((Below.refl _ _).alloc (Nat.le_refl _) _)) hb2)
    clear hb2
    go_wp2_with fail
    refine (draw_below _ B _ _ _ 16 HD2.out.cur (by omega) (by omega)).mono ?_
    rintro e w3 ⟨va, rfl, hva0, hva1, hcc, htt⟩
    have HE3 : Hid _ := DI.hop HD2.out htt hcc
    clear hcc htt
    have i1 := HE3.out.ic 1 _ rfl
    have hif := HE3.out.ifr
    have HD3 : Hid _ := DI.set (n := va) 1 HE3.out (by omega) (show _ = (#[.int .i64 k, .int .i64 va, .int .i64 0, .int .i64 0, .int .i64 0] : Array Value) from rfl)
    have i0 := HD3.out.ic 0 _ rfl
    have r0 := HD3.out.rc 0 _ rfl
    have i1 := HD3.out.ic 1 _ rfl
    have r1 := HD3.out.rc 1 _ rfl
    have i2 := HD3.out.ic 2 _ rfl
    have r2 := HD3.out.rc 2 _ rfl
    have i3 := HD3.out.ic 3 _ rfl
    have r3 := HD3.out.rc 3 _ rfl
    have i4 := HD3.out.ic 4 _ rfl
    have r4 := HD3.out.rc 4 _ rfl
    have hif := HD3.out.ifr
    have hrf := HD3.out.rf
    have HE : Hid _ := DI.ret HD3.out
    go_wp2
    exact bodyPost_ret (v := ins k va 0 0 0) (by simp [results, Try.results62, go_sem, r0, r1, r2, r3, r4]) rfl ⟨_, _, _, _, _, rfl, HE.out _ _ _ _ _⟩
  · have HF : Hid (forms.getD k 0 = 8) := hf
    clear hf
    go_wp2_with fail
    refine (spec_form k 8 _ hk HF.out).mono ?_
    rintro e w2 ⟨rfl, hb2⟩
    have HD2 : Hid _ := DI.start HC.out HT1.out HC1.out (Turn.of_below hb2) (Cur.below (Cur.below HC1.out ((Below.refl _ _).alloc (Nat.le_refl _) _)) hb2)
    clear hb2
    go_wp2_with fail
    refine (draw_below _ B _ _ _ 17 HD2.out.cur (by omega) (by omega)).mono ?_
    rintro e w3 ⟨vm, rfl, hvm0, hvm1, hcc, htt⟩
    have HE3 : Hid _ := DI.hop HD2.out htt hcc
    clear hcc htt
    have i4 := HE3.out.ic 4 _ rfl
    have hif := HE3.out.ifr
    have HD3 : Hid _ := DI.set (n := vm - 8) 4 HE3.out (by omega) (show _ = (#[.int .i64 k, .int .i64 0, .int .i64 0, .int .i64 0, .int .i64 ((vm - 8))] : Array Value) from rfl)
    go_wp2_with fail
    refine (draw_below _ B _ _ _ 8 HD3.out.cur (by omega) (by omega)).mono ?_
    rintro e w4 ⟨vs, rfl, hvs0, hvs1, hcc, htt⟩
    have HE4 : Hid _ := DI.hop HD3.out htt hcc
    clear hcc htt
    by_cases h0 : vs = 0
    · have hb : (vs == 0) = true := by simp [h0]
      clear h0
      go_wp2_with fail
      refine (draw_pick _ B w4.heap.size _ _ _ [-8192, 8191, 0] (HE4.out.cur.below ((Below.refl _ _).alloc (Nat.le_refl _) _)) (own_lit .i64 w4 3 _) (by have := HE4.out.cur.lt; omega) (by decide) (by decide)).mono ?_
      rintro e w5 ⟨vp, rfl, hvp, hcc, htt⟩
      have HE5 : Hid _ := DI.hop HE4.out (((Turn.refl _ _).alloc _).trans htt) hcc
      clear hcc htt hvp
      have i4 := HE5.out.ic 4 _ rfl
      have hif := HE5.out.ifr
      have HD5 : Hid _ := DI.set (n := vp) 4 HE5.out (by omega) (show _ = (#[.int .i64 k, .int .i64 0, .int .i64 0, .int .i64 0, .int .i64 vp] : Array Value) from rfl)
      have i0 := HD5.out.ic 0 _ rfl
      have r0 := HD5.out.rc 0 _ rfl
      have i1 := HD5.out.ic 1 _ rfl
      have r1 := HD5.out.rc 1 _ rfl
      have i2 := HD5.out.ic 2 _ rfl
      have r2 := HD5.out.rc 2 _ rfl
      have i3 := HD5.out.ic 3 _ rfl
      have r3 := HD5.out.rc 3 _ rfl
      have i4 := HD5.out.ic 4 _ rfl
      have r4 := HD5.out.rc 4 _ rfl
      have hif := HD5.out.ifr
      have hrf := HD5.out.rf
      have HE : Hid _ := DI.ret HD5.out
      go_wp2
      exact bodyPost_ret (v := ins k 0 0 0 vp) (by simp [results, Try.results62, go_sem, r0, r1, r2, r3, r4]) rfl ⟨_, _, _, _, _, rfl, HE.out _ _ _ _ _⟩
    · have hb : (vs == 0) = false := beq_eq_false_iff_ne.2 h0
      clear h0
      by_cases h1 : vs = 1
      · have hb1 : (vs == 1) = true := by simp [h1]
        clear h1
        go_wp2_with fail
        refine (draw_below _ B _ _ _ 16384 HE4.out.cur (by omega) (by omega)).mono ?_
        rintro e w5 ⟨vq, rfl, hvq0, hvq1, hcc, htt⟩
        have HE5 : Hid _ := DI.hop HE4.out htt hcc
        clear hcc htt
        have i4 := HE5.out.ic 4 _ rfl
        have hif := HE5.out.ifr
        have HD5 : Hid _ := DI.set (n := vq - 8192) 4 HE5.out (by omega) (show _ = (#[.int .i64 k, .int .i64 0, .int .i64 0, .int .i64 0, .int .i64 ((vq - 8192))] : Array Value) from rfl)
        have i0 := HD5.out.ic 0 _ rfl
        have r0 := HD5.out.rc 0 _ rfl
        have i1 := HD5.out.ic 1 _ rfl
        have r1 := HD5.out.rc 1 _ rfl
        have i2 := HD5.out.ic 2 _ rfl
        have r2 := HD5.out.rc 2 _ rfl
        have i3 := HD5.out.ic 3 _ rfl
        have r3 := HD5.out.rc 3 _ rfl
        have i4 := HD5.out.ic 4 _ rfl
        have r4 := HD5.out.rc 4 _ rfl
        have hif := HD5.out.ifr
        have hrf := HD5.out.rf
        have HE : Hid _ := DI.ret HD5.out
        go_wp2
        exact bodyPost_ret (v := ins k 0 0 0 (vq - 8192)) (by simp [results, Try.results62, go_sem, r0, r1, r2, r3, r4]) rfl ⟨_, _, _, _, _, rfl, HE.out _ _ _ _ _⟩
      · have hb1 : (vs == 1) = false := beq_eq_false_iff_ne.2 h1
        clear h1
        have i0 := HE4.out.ic 0 _ rfl
        have r0 := HE4.out.rc 0 _ rfl
        have i1 := HE4.out.ic 1 _ rfl
        have r1 := HE4.out.rc 1 _ rfl
        have i2 := HE4.out.ic 2 _ rfl
        have r2 := HE4.out.rc 2 _ rfl
        have i3 := HE4.out.ic 3 _ rfl
        have r3 := HE4.out.rc 3 _ rfl
        have i4 := HE4.out.ic 4 _ rfl
        have r4 := HE4.out.rc 4 _ rfl
        have hif := HE4.out.ifr
        have hrf := HE4.out.rf
        have HE : Hid _ := DI.ret HE4.out
        go_wp2
        exact bodyPost_ret (v := ins k 0 0 0 (vm - 8)) (by simp [results, Try.results62, go_sem, r0, r1, r2, r3, r4]) rfl ⟨_, _, _, _, _, rfl, HE.out _ _ _ _ _⟩
end Iy
end Go.Proofs.Ytanffdedignegaa
namespace Go.Proofs.Ytanffdedignegaa
open Go.ChangeShapes Go.WideShapes Go.ChangeAt Go.RowKit Go.Deep
set_option linter.unusedVariables false

theorem Bk.turn {w w' : World} {b B : Nat} {cs : Array Value} (h : Bk w b cs) (ht : Turn B w w') (hn : b ≠ B) : Bk w' b cs :=
  ⟨Nat.lt_of_lt_of_le h.lt ht.size, fun i v e => (ht.cell h.lt hn).trans (h.cell i v e), fun i => (ht.frozen h.lt hn).trans (h.free i)⟩
theorem turn_far {B Y : Nat} {w X : World} (h : Turn B w X) (hY : w.heap.size ≤ Y) (j : Nat) (u : Value) : Turn B w (X.setCell ⟨Y, j, none⟩ u) :=
  ⟨h.os, h.tape, h.output, by simpa [World.setCell] using h.size, fun k hk hn => (Below.heap_setCell _ _ _ _ (by show k ≠ Y; omega)).trans (h.block k hk hn)⟩
theorem cur_far {w : World} {B : Nat} {a : Option Addr} {zs : List Int} {cap : Nat} (h : Cur w B a zs cap) (Y j : Nat) (u : Value) (hY : B ≠ Y) (hf : ∀ b off, a = some ⟨b, off, none⟩ → 0 < zs.length → b ≠ Y) : Cur (w.setCell ⟨Y, j, none⟩ u) B a zs cap := by
  have ht : Turn Y w (w.setCell ⟨Y, j, none⟩ u) := (Turn.refl _ _).setCell j u
  obtain ⟨i, hi, e1⟩ := h.c1
  obtain ⟨x, e2⟩ := h.c2
  exact ⟨by simpa using h.lt, (ht.cell h.lt hY).trans h.c0, ⟨i, hi, (ht.cell h.lt hY).trans e1⟩, ⟨x, (ht.cell h.lt hY).trans e2⟩, fun i => (ht.frozen h.lt hY).trans (h.free i), h.seg.turn ht hf, h.far, h.byte, h.small⟩
namespace Iy
theorem nblk_set (w : World) (p : Addr) (v : Value) : (w.setCell p v).heap.size = w.heap.size := by simp
theorem own_litD (k : IntKind) (w : World) (T : TypeId) (ys : List Int) : Own k (w.alloc (.cells (ys.map (Value.int k)).toArray T)) w.heap.size ys := own_lit k w T ys
/-- The cursor of a call that began in 'w' and stands in 'W'. -/
structure CT (w W : World) (B : Nat) (a : Option Addr) (zs : List Int) (cap : Nat) : Prop where
  cur : Cur W B a zs cap
  turn : Turn B w W
  lo : B < w.heap.size
  la : ∀ b off, a = some ⟨b, off, none⟩ → 0 < zs.length → b < w.heap.size
theorem CT.start {w : World} {B : Nat} {a : Option Addr} {zs : List Int} {cap : Nat} (h : Cur w B a zs cap) : CT w w B a zs cap := ⟨h, Turn.refl _ _, h.lt, seg_lt h.seg⟩
theorem CT.below {w W X : World} {B : Nat} {a : Option Addr} {zs : List Int} {cap : Nat} (h : CT w W B a zs cap) (hb : Below W.heap.size W X) : CT w X B a zs cap := ⟨h.cur.below hb, h.turn.trans (Turn.of_below hb), h.lo, h.la⟩
theorem CT.alloc {w W : World} {B : Nat} {a : Option Addr} {zs : List Int} {cap : Nat} (h : CT w W B a zs cap) (o : Obj) : CT w (W.alloc o) B a zs cap := h.below ((Below.refl _ _).alloc (Nat.le_refl _) _)
theorem CT.step {w W X : World} {B : Nat} {a : Option Addr} {zs : List Int} {cap : Nat} (h : CT w W B a zs cap) (hc : Cur X B a zs cap) (ht : Turn B W X) : CT w X B a zs cap := ⟨hc, h.turn.trans ht, h.lo, h.la⟩
theorem CT.set {w W : World} {B : Nat} {a : Option Addr} {zs : List Int} {cap : Nat} (h : CT w W B a zs cap) (Y j : Nat) (u : Value) (hY : w.heap.size ≤ Y) : CT w (W.setCell ⟨Y, j, none⟩ u) B a zs cap :=
  ⟨cur_far h.cur Y j u (by have := h.lo; omega) (fun b off e h0 => by have := h.la b off e h0; omega), turn_far h.turn hY j u, h.lo, h.la⟩
def OwnU (w : World) (base : Nat) (v : Value) (zs : List Int) : Prop := w.ownsRow base 26 1 v zs.length (zs.map (Value.int .u32))
theorem OwnU.new (w : World) (B : Nat) (hB : B = w.heap.size) : OwnU (w.alloc (.cells #[] 26)) B (.slice (some ⟨B, 0, none⟩) 0 0) [] := by
  subst hB
  exact ⟨rfl, .inr ⟨w.heap.size, 0, #[], rfl, Nat.le_refl _, by show (w.heap.push _)[w.heap.size]? = _; simp, Nat.le_refl _, by simp, rfl, rfl⟩⟩
theorem OwnU.seg {w : World} {base : Nat} {v : Value} {zs : List Int} (h : OwnU w base v zs) : ∃ a cap, v = .slice a zs.length cap ∧ Seg .u32 w a zs := by
  rcases h.2 with ⟨h0, h1⟩ | ⟨g, cap, cur, rfl, hb, hg, h1, h2, h3, h4⟩
  · exact ⟨none, 0, by rw [h0, h1], fun h => absurd h (by omega)⟩
  · refine ⟨_, _, rfl, fun h0 => ⟨g, 0, rfl, ?_, fun i hi => ?_⟩⟩
    · rcases Nat.lt_or_ge g w.heap.size with hlt | hge
      · exact hlt
      · rw [Array.getElem?_eq_none hge] at hg; cases hg
    · rw [Nat.zero_add]
      have e : cur[i]? = some (.int .u32 (zs.getD i 0)) := by
        have := congrArg (·[i]?) h4
        simp only [Nat.mul_one] at this
        rw [List.getElem?_take, if_pos hi] at this
        simpa [hi, List.getD] using this
      simp [World.cell?, hg, e]
theorem OwnU.below {w w' : World} {base : Nat} {v : Value} {zs : List Int} (h : OwnU w base v zs) (hb : Below w.heap.size w w') : OwnU w' base v zs := ownsRow_below h hb
theorem OwnU.low {w : World} {base b' : Nat} {v : Value} {zs : List Int} (h : OwnU w base v zs) (hle : b' ≤ base) : OwnU w b' v zs := by
  refine ⟨h.1, ?_⟩
  rcases h.2 with hn | ⟨g, cap, cur, e, hb, rest⟩
  · exact .inl hn
  · exact .inr ⟨g, cap, cur, e, by omega, rest⟩
theorem OwnU.snoc {w : World} {base g cap : Nat} {zs : List Int} {r : Int} (h : w.ownsRow base 26 1 (.slice (some ⟨g, 0, none⟩) (zs.length + 1) cap) (zs.length + 1) (zs.map (Value.int .u32) ++ [.int .u32 r])) :
    OwnU w base (.slice (some ⟨g, 0, none⟩) (zs.length + 1) cap) (zs ++ [r]) := by
  unfold OwnU
  simpa using h
theorem OwnU.kept {w w' : World} {base : Nat} {v : Value} {zs : List Int} {row : Option Nat} (h : OwnU w base v zs) (hg : w.grownBy w' row) (hne : ∀ g, v.ownBlock = some g → row ≠ some g) : OwnU w' base v zs :=
  World.ownsRow.kept h hg (by
    cases hv : v.ownBlock with
    | none => exact .inl rfl
    | some g => exact .inr (fun e => hne g hv e.symm))
theorem news_u (w : World) (z : Int) (B : Nat) (hB : B = w.heap.size) : ∀ j u, [Value.int .u32 z][j]? = some u → (w.alloc (.cells #[.int .u32 z] 26)).cell? ((⟨B, 0, none⟩ : Addr).add j) = some u := news_at w _ 26 B hB
theorem one_u (r : Int) : ∀ u ∈ [Value.int .u32 r], u.oneCell' = true := by
  intro u hu
  simp only [List.mem_singleton] at hu
  subst hu
  rfl
theorem OwnU.blk {w w' : World} {base B : Nat} {v : Value} {zs : List Int} (h : OwnU w base v zs) (hb : Below B w w') (hlt : ∀ g, v.ownBlock = some g → g < B) : OwnU w' base v zs := by
  refine ⟨h.1, ?_⟩
  rcases h.2 with hn | ⟨g, cap, cur, e, hbs, hg, rest⟩
  · exact .inl hn
  · exact .inr ⟨g, cap, cur, e, hbs, by rw [hb.block g (hlt g (by rw [e]; rfl))]; exact hg, rest⟩
theorem OwnU.shape {w : World} {base : Nat} {v : Value} {zs : List Int} {n : Nat} (h : OwnU w base v zs) (hv : v ≠ .slice none 0 0) (hn : zs.length = n) : ∃ g cap, v = .slice (some ⟨g, 0, none⟩) n cap ∧ n ≤ cap := by
  subst hn
  rcases h.2 with ⟨h0, h1⟩ | ⟨g, cap, cur, e, hb, hg, h1, r⟩
  · exact absurd h0 hv
  · exact ⟨g, cap, e, h1⟩
set_option maxHeartbeats 1000000 in
theorem draw_word (w : World) (B : Nat) (a : Option Addr) (zs : List Int) (cap : Nat) (hc : Cur w B a zs cap) :
    Calls Try.prog 16 #[.pointer (some ⟨B, 0, none⟩)] w fun e w' => ∃ x : Int, e = .returned (.int .u32 x) ∧ 0 ≤ x ∧ x ≤ 4294967295 ∧ Cur w' B a zs cap ∧ Turn B w w' := by
  go_enter Try.func16, Try.ntmps16
  go_wp2_with fail
  refine (draw_below _ _ _ _ _ _ hc (by omega) (by omega)).mono ?_
  rintro e w1 ⟨x, rfl, hx0, hx1, hc1, ht1⟩
  by_cases x0 : x = 0
  · have hb : (x == 0) = true := by simp [x0]
    clear x0
    go_wp2_with fail
    refine (draw_pick _ B w1.heap.size _ _ _ [0, 1, 2, 31, 32, 255, 256, 2147483647, 2147483648, 4294967295, 4294967294] (hc1.below ((Below.refl _ _).alloc (Nat.le_refl _) _)) (own_litD .i64 w1 3 _) (by have := hc1.lt; omega) (by decide) (by decide)).mono ?_
    rintro e w2 ⟨y, rfl, hy, hc2, ht2⟩
    have hy2 : 0 ≤ y ∧ y ≤ 4294967295 := by simp at hy; omega
    obtain ⟨hy0, hy1⟩ := hy2
    clear hy
    go_wp2
    go_ret
    exact ⟨_, rfl, by omega, by omega, hc2, (ht1.alloc _).trans ht2⟩
  · have hb : (x == 0) = false := beq_eq_false_iff_ne.2 x0
    clear x0
    by_cases x1 : x = 1
    · have hb1 : (x == 1) = true := by simp [x1]
      clear x1
      go_wp2_with fail
      refine (draw_below _ _ _ _ _ _ hc1 (by omega) (by omega)).mono ?_
      rintro e w2 ⟨y, rfl, hy0, hy1, hc2, ht2⟩
      go_wp2
      go_ret
      exact ⟨_, rfl, by omega, by omega, hc2, ht1.trans ht2⟩
    · have hb1 : (x == 1) = false := beq_eq_false_iff_ne.2 x1
      clear x1
      go_wp2_with fail
      refine (draw_below _ _ _ _ _ _ hc1 (by omega) (by omega)).mono ?_
      rintro e w2 ⟨y, rfl, hy0, hy1, hc2, ht2⟩
      go_wp2_with fail
      refine (draw_below _ _ _ _ _ _ hc2 (by omega) (by omega)).mono ?_
      rintro e w3 ⟨z, rfl, hz0, hz1, hc3, ht3⟩
      go_wp2
      go_ret
      exact ⟨_, rfl, by omega, by omega, hc3, (ht1.trans ht2).trans ht3⟩
/-- The drawing of words: the cursor, and the list so far, from block 'base' on. -/
structure DW (w wr : World) (base B : Nat) (a : Option Addr) (zs : List Int) (cap : Nat) (v : Value) (xs : List Int) : Prop where
  ct : CT w wr B a zs cap
  own : OwnU wr base v xs
  nv : v ≠ .slice none 0 0
  le : w.heap.size ≤ base
  ls : base ≤ wr.heap.size
theorem ownU_turn {w X : World} {B base : Nat} {v : Value} {ys : List Int} (h : OwnU w base v ys) (ht : Turn B w X) (hB : B < base) : OwnU X base v ys := by
  refine ⟨h.1, ?_⟩
  rcases h.2 with hn | ⟨g, cap, cur, e, hbs, hgg, rest⟩
  · exact .inl hn
  · refine .inr ⟨g, cap, cur, e, hbs, ?_, rest⟩
    have hlt : g < w.heap.size := by
      rcases Nat.lt_or_ge g w.heap.size with hlt | hge
      · exact hlt
      · rw [Array.getElem?_eq_none hge] at hgg; cases hgg
    rw [ht.block g hlt (by omega)]
    exact hgg
theorem OwnU.lt {w : World} {base : Nat} {v : Value} {ys : List Int} (h : OwnU w base v ys) : ∀ g, v.ownBlock = some g → base ≤ g ∧ g < w.heap.size := fun g e => by
  rcases h.2 with ⟨h0, h1⟩ | ⟨g', cap, cur, rfl, hb, hg, r⟩
  · subst h0; cases e
  · have e' : g' = g := by have : some g' = some g := e; injection this
    subst e'
    refine ⟨hb, ?_⟩
    rcases Nat.lt_or_ge g' w.heap.size with hlt | hge
    · exact hlt
    · rw [Array.getElem?_eq_none hge] at hg; cases hg
theorem OwnU.set {w : World} {base Y j : Nat} {v u : Value} {ys : List Int} (h : OwnU w base v ys) (hv : ∀ g, v.ownBlock = some g → g ≠ Y) : OwnU (w.setCell ⟨Y, j, none⟩ u) base v ys := by
  have hbt : Betw Y (Y + 1) w (w.setCell ⟨Y, j, none⟩ u) := (Betw.refl _ _ w).setCell (p := ⟨Y, j, none⟩) (Nat.le_refl _) (by simp) _
  refine ⟨h.1, ?_⟩
  rcases h.2 with hn | ⟨g, cap, cur, e, hbs, hgg, rest⟩
  · exact .inl hn
  · refine .inr ⟨g, cap, cur, e, hbs, ?_, rest⟩
    have hlt : g < w.heap.size := by
      rcases Nat.lt_or_ge g w.heap.size with hlt | hge
      · exact hlt
      · rw [Array.getElem?_eq_none hge] at hgg; cases hgg
    have hne := hv g (by rw [e]; rfl)
    rw [hbt.block g hlt (by omega)]
    exact hgg
variable {w wr : World} {base B : Nat} {a : Option Addr} {zs : List Int} {cap : Nat} {v : Value} {xs : List Int}
theorem DW.below {X : World} (h : DW w wr base B a zs cap v xs) (hb : Below wr.heap.size wr X) : DW w X base B a zs cap v xs := ⟨h.ct.below hb, h.own.below hb, h.nv, h.le, Nat.le_trans h.ls hb.size⟩
theorem DW.step {X : World} (h : DW w wr base B a zs cap v xs) (hc : Cur X B a zs cap) (ht : Turn B wr X) : DW w X base B a zs cap v xs := ⟨h.ct.step hc ht, ownU_turn h.own ht (by have := h.ct.lo; have := h.le; omega), h.nv, h.le, Nat.le_trans h.ls ht.size⟩
theorem DW.low {X : World} {v' : Value} {xs' : List Int} (h : DW w wr base B a zs cap v xs) (hb : Below base wr X) (ho : OwnU X base v' xs') (hv : v' ≠ .slice none 0 0) : DW w X base B a zs cap v' xs' :=
  ⟨⟨h.ct.cur.belowC hb (by have := h.ct.lo; have := h.le; omega) (fun b off e h0 => by have := h.ct.la b off e h0; have := h.le; omega), ⟨hb.os.trans h.ct.turn.os, hb.tape.trans h.ct.turn.tape, hb.output.trans h.ct.turn.output, Nat.le_trans h.ct.turn.size hb.size, fun k hk hn => (hb.block k (by have := h.le; omega)).trans (h.ct.turn.block k hk hn)⟩, h.ct.lo, h.ct.la⟩, ho, hv, h.le, Nat.le_trans h.ls hb.size⟩
theorem DW.set {Y j : Nat} {u : Value} (h : DW w wr base B a zs cap v xs) (hY : w.heap.size ≤ Y) (hv : ∀ g, v.ownBlock = some g → g ≠ Y) : DW w (wr.setCell ⟨Y, j, none⟩ u) base B a zs cap v xs :=
  ⟨h.ct.set Y j u hY, h.own.set hv, h.nv, h.le, by rw [Iy.nblk_set]; exact h.ls⟩
theorem DW.from {w0 : World} (h : DW w wr base B a zs cap v xs) (h0 : CT w0 w B a zs cap) : DW w0 wr base B a zs cap v xs :=
  ⟨⟨h.ct.cur, h0.turn.trans h.ct.turn, h0.lo, h0.la⟩, h.own, h.nv, Nat.le_trans h0.turn.size h.le, h.ls⟩
end Iy
end Go.Proofs.Ytanffdedignegaa
namespace Go.Proofs.Ytanffdedignegaa
namespace Iy
open Go.ChangeShapes Go.WideShapes Go.ChangeAt Go.RowKit Go.Deep
set_option linter.unusedVariables false

theorem infoU' : ∃ i, Try.prog.info? 26 = some i ∧ i.zero = some (.int .u32 0) ∧ i.size = 1 ∧ i.bytes = 4 := by
  have infoUU : (Try.prog.info? 26).map (fun i => (i.zero, i.size, i.bytes)) = some (some (.int .u32 0), 1, 4) := by kernel_rfl
  obtain ⟨i, hi, h⟩ := Option.map_eq_some_iff.1 infoUU
  simp only [Prod.mk.injEq] at h
  exact ⟨i, hi, h⟩
theorem code_rng {op a b c m : Int} (h : instrOk op a b c m = true) : 0 ≤ code op a b c m ∧ code op a b c m ≤ 4294967295 := by
  obtain ⟨h1, h2, h3, h4, h5, h6, h7, h8, h9, h10⟩ := instrOk_bounds op a b c m h
  unfold code
  omega
theorem enc_any (op a b c m : Int) (w : World) : Calls Try.prog 63 #[ins op a b c m] w fun e w' => ∃ (z : Int) (q : Bool), e = .returned (.tuple #[.int .u32 z, .bool q]) ∧ (0 ≤ z ∧ z ≤ 4294967295) ∧ Below w.heap.size w w' := by
  cases h : instrOk op a b c m
  · exact (spec_enc_no op a b c m w h).mono fun e w' ⟨h1, h2⟩ => ⟨0, false, h1, by omega, h2⟩
  · exact (spec_enc op a b c m w h).mono fun e w' ⟨h1, h2⟩ => ⟨_, true, h1, code_rng h, h2⟩
/-- The drawing of words, with an instruction's box beside it. -/
structure SR (w X : World) (base B : Nat) (a : Option Addr) (zs : List Int) (cap : Nat) (v : Value) (xs : List Int) (P : Nat) (i0 i1 i2 i3 i4 : Value) : Prop where
  dw : DW w X base B a zs cap v xs
  bk : Bk X P #[i0, i1, i2, i3, i4]
  hp : w.heap.size ≤ P
  ne : ∀ g, v.ownBlock = some g → g ≠ P
variable {w X : World} {base B : Nat} {a : Option Addr} {zs : List Int} {cap : Nat} {v : Value} {xs : List Int} {P : Nat} {i0 i1 i2 i3 i4 : Value}
theorem SR.step {Y : World} (h : SR w X base B a zs cap v xs P i0 i1 i2 i3 i4) (hc : Cur Y B a zs cap) (ht : Turn B X Y) : SR w Y base B a zs cap v xs P i0 i1 i2 i3 i4 :=
  ⟨h.dw.step hc ht, h.bk.turn ht (by have := h.dw.ct.lo; have := h.hp; omega), h.hp, h.ne⟩
theorem SR.below {Y : World} (h : SR w X base B a zs cap v xs P i0 i1 i2 i3 i4) (hb : Below X.heap.size X Y) : SR w Y base B a zs cap v xs P i0 i1 i2 i3 i4 :=
  ⟨h.dw.below hb, h.bk.below hb, h.hp, h.ne⟩
theorem SR.new {Y : World} (h : DW w Y base B a zs cap v xs) (i0 i1 i2 i3 i4 : Value) (T : TypeId) : SR w (Y.alloc (.cells #[i0, i1, i2, i3, i4] T)) base B a zs cap v xs Y.heap.size i0 i1 i2 i3 i4 :=
  ⟨h.below ((Below.refl _ _).alloc (Nat.le_refl _) _), Bk.new _ _ _ _ rfl, Nat.le_trans h.le h.ls, fun g e => by have := (h.own.lt g e).2; omega⟩
theorem SR.put (h : SR w X base B a zs cap v xs P i0 i1 i2 i3 i4) (j0 j1 j2 j3 j4 : Value) : SR w (((((X.setCell ⟨P, 0, none⟩ j0).setCell ⟨P, 1, none⟩ j1).setCell ⟨P, 2, none⟩ j2).setCell ⟨P, 3, none⟩ j3).setCell ⟨P, 4, none⟩ j4) base B a zs cap v xs P j0 j1 j2 j3 j4 :=
  ⟨((((h.dw.set h.hp h.ne).set h.hp h.ne).set h.hp h.ne).set h.hp h.ne).set h.hp h.ne, ((((h.bk.set 0 j0 (by simp) (cs' := #[j0, i1, i2, i3, i4]) rfl).set 1 j1 (by simp) (cs' := #[j0, j1, i2, i3, i4]) rfl).set 2 j2 (by simp) (cs' := #[j0, j1, j2, i3, i4]) rfl).set 3 j3 (by simp) (cs' := #[j0, j1, j2, j3, i4]) rfl).set 4 j4 (by simp) rfl, h.hp, h.ne⟩
set_option maxRecDepth 20000 in
set_option maxHeartbeats 8000000 in
theorem draw_src (w : World) (B : Nat) (a : Option Addr) (zs : List Int) (cap : Nat) (n : Nat) (d : Int) (hc : Cur w B a zs cap) (hn : n ≤ 64) (hd : 0 ≤ d ∧ d ≤ 100000) :
    Calls Try.prog 50 #[.pointer (some ⟨B, 0, none⟩), .int .i64 (n : Int), .int .i64 d] w fun e w' => ∃ v xs, e = .returned v ∧ xs.length = n ∧ (∀ x ∈ xs, 0 ≤ x ∧ x ≤ 4294967295) ∧ DW w w' w.heap.size B a zs cap v xs := by
  obtain ⟨base, hbase⟩ : ∃ b, b = w.heap.size := ⟨_, rfl⟩
  rw [← hbase]
  have H0 : Hid (DW w (w.alloc (.cells #[] 26)) base B a zs cap (.slice (some ⟨base, 0, none⟩) 0 0) []) := ⟨(CT.start hc).alloc _, by rw [hbase]; exact OwnU.new _ _ rfl, by simp, by omega, by rw [hbase]; simp⟩
  have hlo := hc.lt
  have hd0 := hd.1
  have hd1 := hd.2
  clear hc hd
  obtain ⟨iS, hi1, hi2, hi3, hi4⟩ := infoU'
  have HIN : Hid (Try.prog.info? 26 = some iS ∧ iS.zero = some (.int .u32 0) ∧ iS.size = 1 ∧ iS.bytes = 4) := ⟨hi1, hi2, hi3, hi4⟩
  clear hi1 hi2 hi3 hi4
  go_enter Try.func50, Try.ntmps50
  go_wp2
  go_loopw [7, 8] (fun v i wr => ∃ j : Nat, j ≤ n ∧ i = .int .i64 j ∧ Hid (∃ xs, xs.length = j ∧ (∀ x ∈ xs, 0 ≤ x ∧ x ≤ 4294967295) ∧ DW w wr base B a zs cap v xs)) (fun _ i _ => n - (intOf i).toNat)
  case atStart => exact ⟨0, by omega, rfl, [], rfl, (fun x hx => by cases hx), by rw [← hbase]; exact H0.out⟩
  case round =>
    obtain ⟨i, hi, rfl, HR⟩ := hrel
    clear H0
    by_cases hin : i < n
    rotate_left
    · obtain rfl : i = n := by omega
      go_wp2
      go_ret
      obtain ⟨xs, h1, h2, h3⟩ := HR.out
      exact ⟨_, xs, rfl, h1, h2, h3⟩
    have hin' : (i : Int) < (n : Int) := by omega
    obtain ⟨xs, h1, hxr, h2⟩ := HR.out
    have HXL : Hid (xs.length = i) := h1
    have HXR : Hid (∀ x ∈ xs, 0 ≤ x ∧ x ≤ 4294967295) := hxr
    have HD1 : Hid (DW w wr base B a zs cap u7 xs) := h2
    have hsl : xs.length ≤ 2000 := by have := HXL.out; omega
    clear HR h1 h2 hxr
    go_wp2_with fail
    refine (draw_ins _ B _ _ _ HD1.out.ct.cur).mono ?_
    rintro e w2 ⟨oi, oa, ob, oc, om, rfl, hc2, ht2⟩
    have hS2 := SR.new (HD1.out.step hc2 ht2) (.int .i64 oi) (.int .i64 oa) (.int .i64 ob) (.int .i64 oc) (.int .i64 om) 92
    obtain ⟨P9, hP9⟩ : ∃ p, w2.heap.size = p := ⟨_, rfl⟩
    obtain ⟨W2, hW2⟩ : ∃ x, x = w2.alloc (.cells #[.int .i64 oi, .int .i64 oa, .int .i64 ob, .int .i64 oc, .int .i64 om] 92) := ⟨_, rfl⟩
    rw [hP9, ← hW2] at hS2
    have HS2 : Hid (SR w W2 base B a zs cap u7 xs P9 (.int .i64 oi) (.int .i64 oa) (.int .i64 ob) (.int .i64 oc) (.int .i64 om)) := hS2
    clear hc2 ht2 HD1 hS2
    go_wp2_with fail
    rw [← hW2]
    try rw [hP9]
    clear hW2 hP9
    refine (draw_below _ B _ _ _ 8 HS2.out.dw.ct.cur (by omega) (by omega)).mono ?_
    rintro e w3 ⟨y3, rfl, hy3, hz3, hc3, ht3⟩
    have HS3' : Hid (SR w w3 base B a zs cap u7 xs P9 (.int .i64 oi) (.int .i64 oa) (.int .i64 ob) (.int .i64 oc) (.int .i64 om)) := HS2.out.step hc3 ht3
    obtain ⟨i0, hi0⟩ : ∃ x : Value, x = .int .i64 oi := ⟨_, rfl⟩
    clear hc3 ht3 HS2
    have HS3 : Hid (SR w w3 base B a zs cap u7 xs P9 (.int .i64 oi) (.int .i64 oa) (.int .i64 ob) (.int .i64 oc) (.int .i64 om)) := HS3'.out
    clear HS3' hi0
    by_cases hx0 : y3 = 0
    · have hq0 : (y3 == 0) = true := by simp [hx0]
      clear hx0
      go_wp2_with fail
      refine (draw_pick _ B w3.heap.size _ _ _ [15, 16, 17, 18] (HS3.out.dw.ct.cur.below ((Below.refl _ _).alloc (Nat.le_refl _) _)) (own_litD .i64 w3 3 _) (by have := HS3.out.dw.ct.cur.lt; omega) (by decide) (by decide)).mono ?_
      rintro e w10 ⟨y10, rfl, hm10, hc10, ht10⟩
      have HS10 : Hid (SR w w10 base B a zs cap u7 xs P9 (.int .i64 oi) (.int .i64 oa) (.int .i64 ob) (.int .i64 oc) (.int .i64 om)) := (HS3.out.below ((Below.refl _ _).alloc (Nat.le_refl _) _)).step hc10 ht10
      have hy10 : 0 ≤ y10 ∧ y10 ≤ 100 := by simp at hm10; omega
      clear hc10 ht10 hm10 HS3
      go_wp2_with fail
      refine (draw_below _ B _ _ _ 5 HS10.out.dw.ct.cur (by omega) (by omega)).mono ?_
      rintro e w11 ⟨y11, rfl, hy11, hz11, hc11, ht11⟩
      have HS11 : Hid (SR w w11 base B a zs cap u7 xs P9 (.int .i64 oi) (.int .i64 oa) (.int .i64 ob) (.int .i64 oc) (.int .i64 om)) := HS10.out.step hc11 ht11
      clear hc11 ht11 HS10
      go_wp2_with fail
      refine (draw_below _ B _ _ _ 10 HS11.out.dw.ct.cur (by omega) (by omega)).mono ?_
      rintro e w12 ⟨y12, rfl, hy12, hz12, hc12, ht12⟩
      have HS12 : Hid (SR w w12 base B a zs cap u7 xs P9 (.int .i64 oi) (.int .i64 oa) (.int .i64 ob) (.int .i64 oc) (.int .i64 om)) := HS11.out.step hc12 ht12
      clear hc12 ht12 HS11
      have k9 := HS12.out.bk
      have e0 := k9.cell 0 _ rfl
      have e1 := k9.cell 1 _ rfl
      have e2 := k9.cell 2 _ rfl
      have e3 := k9.cell 3 _ rfl
      have e4 := k9.cell 4 _ rfl
      have ef := k9.free
      clear k9
      go_wp2_with fail
      refine (enc_any _ _ _ _ _ _).mono ?_
      rintro e w20 ⟨z, q, rfl, hz, hb20⟩
      have HD0 : Hid (DW w w20 base B a zs cap u7 xs) := ((SR.put HS12.out _ _ _ _ _).below hb20).dw
      clear e0 e1 e2 e3 e4 ef hb20 HS12
      have HZ0 : Hid (0 ≤ z ∧ z ≤ 4294967295) := hz
      clear hz
      go_wp2_with fail
      refine (draw_once _ B _ _ _ 30 HD0.out.ct.cur (by omega) (by omega)).mono ?_
      rintro e w21 ⟨q21, rfl, hc21, ht21⟩
      have HD1 : Hid (DW w w21 base B a zs cap u7 xs) := HD0.out.step hc21 ht21
      clear hc21 ht21 HD0
      cases q21
      · have HD : Hid (DW w w21 base B a zs cap u7 xs) := HD1.out
        have HZR : Hid (0 ≤ z ∧ z ≤ 4294967295) := HZ0.out
        clear HD1 HZ0
        have hal : Below w21.heap.size w21 (w21.alloc (.cells #[.int .u32 z] 26)) := (Below.refl _ _).alloc (Nat.le_refl _) _
        have HPA : Hid (DW w (w21.alloc (.cells #[.int .u32 z] 26)) base B a zs cap u7 xs) := HD.out.below hal
        have hownA : (w21.alloc (.cells #[.int .u32 z] 26)).ownsRow base 26 1 u7 xs.length (xs.map (Value.int .u32)) := HPA.out.own
        have HSZ : Hid (base ≤ (w21.alloc (.cells #[.int .u32 z] 26)).heap.size) := HPA.out.ls
        have HZ : Hid (∀ (gg cap1 : Nat) (w9 : World), w9.ownsRow base 26 1 (.slice (some ⟨gg, 0, none⟩) (xs.length + 1) cap1) (xs.length + 1) (xs.map (Value.int .u32) ++ [.int .u32 z]) → (w21.alloc (.cells #[.int .u32 z] 26)).grownBy w9 u7.ownBlock → ∃ xs', xs'.length = i + 1 ∧ (∀ x ∈ xs', 0 ≤ x ∧ x ≤ 4294967295) ∧ DW w w9 base B a zs cap (.slice (some ⟨gg, 0, none⟩) (xs.length + 1) cap1) xs') := fun gg cap1 w9 g1 g2 => ⟨xs ++ [z], by rw [List.length_append, HXL.out]; rfl, fun x hx => by rcases List.mem_append.1 hx with h | h; exact HXR.out x h; rw [List.mem_singleton.1 h]; exact HZR.out, HPA.out.low (Below.grown (Below.refl _ _) g2 HSZ.out (fun g e => (HPA.out.own.lt g e).1)) (OwnU.snoc g1) (by simp)⟩
        clear hal HD HPA
        go_wp2_with (at_builtin; (refine wpList_append_lies _ rfl (.tmp 91) (.tmp 93) 25 rfl base 26 iS (.int .u32 0) 1 4 Try.underlying25 HIN.out.1 HIN.out.2.1 HIN.out.2.2.1 HIN.out.2.2.2 rfl (by omega) u7 xs.length (xs.map (Value.int .u32)) rfl hownA _ 1 1 [.int .u32 z] rfl rfl (news_u _ _ _ (by simp)) (one_u _) (by omega) (by unfold maxLen; omega) (by omega) HSZ.out _ rfl ?_; intro gg cap1 w9 hown1 hgrow hat hlt1; have HYY : Hid _ := HZ.out gg cap1 w9 hown1 hgrow; clear hown1 hgrow hat hlt1))
        go_roundw
        case rel => exact ⟨i + 1, by omega, by go_num, HYY⟩
        case measure => simp [intOf]; omega
      · clear HZ0
        go_wp2_with fail
        refine (draw_word _ B _ _ _ HD1.out.ct.cur).mono ?_
        rintro e w22 ⟨x7, rfl, h70, h71, hc22, ht22⟩
        have HD : Hid (DW w w22 base B a zs cap u7 xs) := HD1.out.step hc22 ht22
        have HZR : Hid (0 ≤ x7 ∧ x7 ≤ 4294967295) := ⟨h70, h71⟩
        clear hc22 ht22 HD1 h70 h71
        have hal : Below w22.heap.size w22 (w22.alloc (.cells #[.int .u32 x7] 26)) := (Below.refl _ _).alloc (Nat.le_refl _) _
        have HPA : Hid (DW w (w22.alloc (.cells #[.int .u32 x7] 26)) base B a zs cap u7 xs) := HD.out.below hal
        have hownA : (w22.alloc (.cells #[.int .u32 x7] 26)).ownsRow base 26 1 u7 xs.length (xs.map (Value.int .u32)) := HPA.out.own
        have HSZ : Hid (base ≤ (w22.alloc (.cells #[.int .u32 x7] 26)).heap.size) := HPA.out.ls
        have HZ : Hid (∀ (gg cap1 : Nat) (w9 : World), w9.ownsRow base 26 1 (.slice (some ⟨gg, 0, none⟩) (xs.length + 1) cap1) (xs.length + 1) (xs.map (Value.int .u32) ++ [.int .u32 x7]) → (w22.alloc (.cells #[.int .u32 x7] 26)).grownBy w9 u7.ownBlock → ∃ xs', xs'.length = i + 1 ∧ (∀ x ∈ xs', 0 ≤ x ∧ x ≤ 4294967295) ∧ DW w w9 base B a zs cap (.slice (some ⟨gg, 0, none⟩) (xs.length + 1) cap1) xs') := fun gg cap1 w9 g1 g2 => ⟨xs ++ [x7], by rw [List.length_append, HXL.out]; rfl, fun x hx => by rcases List.mem_append.1 hx with h | h; exact HXR.out x h; rw [List.mem_singleton.1 h]; exact HZR.out, HPA.out.low (Below.grown (Below.refl _ _) g2 HSZ.out (fun g e => (HPA.out.own.lt g e).1)) (OwnU.snoc g1) (by simp)⟩
        clear hal HD HPA
        go_wp2_with (at_builtin; (refine wpList_append_lies _ rfl (.tmp 91) (.tmp 93) 25 rfl base 26 iS (.int .u32 0) 1 4 Try.underlying25 HIN.out.1 HIN.out.2.1 HIN.out.2.2.1 HIN.out.2.2.2 rfl (by omega) u7 xs.length (xs.map (Value.int .u32)) rfl hownA _ 1 1 [.int .u32 x7] rfl rfl (news_u _ _ _ (by simp)) (one_u _) (by omega) (by unfold maxLen; omega) (by omega) HSZ.out _ rfl ?_; intro gg cap1 w9 hown1 hgrow hat hlt1; have HYY : Hid _ := HZ.out gg cap1 w9 hown1 hgrow; clear hown1 hgrow hat hlt1))
        go_roundw
        case rel => exact ⟨i + 1, by omega, by go_num, HYY⟩
        case measure => simp [intOf]; omega
    · have hq0 : (y3 == 0) = false := beq_eq_false_iff_ne.2 hx0
      clear hx0
      by_cases hx1 : y3 = 1
      · have hq1 : (y3 == 1) = true := by simp [hx1]
        clear hx1
        go_wp2_with fail
        refine (draw_below _ B _ _ _ 5 HS3.out.dw.ct.cur (by omega) (by omega)).mono ?_
        rintro e w10 ⟨y10, rfl, hy10, hz10, hc10, ht10⟩
        have HS10 : Hid (SR w w10 base B a zs cap u7 xs P9 (.int .i64 oi) (.int .i64 oa) (.int .i64 ob) (.int .i64 oc) (.int .i64 om)) := HS3.out.step hc10 ht10
        clear hc10 ht10 HS3
        go_wp2_with fail
        refine (draw_below _ B _ _ _ 4 HS10.out.dw.ct.cur (by omega) (by omega)).mono ?_
        rintro e w11 ⟨y11, rfl, hy11, hz11, hc11, ht11⟩
        have HS11 : Hid (SR w w11 base B a zs cap u7 xs P9 (.int .i64 oi) (.int .i64 oa) (.int .i64 ob) (.int .i64 oc) (.int .i64 om)) := HS10.out.step hc11 ht11
        clear hc11 ht11 HS10
        go_wp2_with fail
        refine (draw_below _ B _ _ _ 30 HS11.out.dw.ct.cur (by omega) (by omega)).mono ?_
        rintro e w12 ⟨y12, rfl, hy12, hz12, hc12, ht12⟩
        have HS12 : Hid (SR w w12 base B a zs cap u7 xs P9 (.int .i64 oi) (.int .i64 oa) (.int .i64 ob) (.int .i64 oc) (.int .i64 om)) := HS11.out.step hc12 ht12
        clear hc12 ht12 HS11
        have k9 := HS12.out.bk
        have e0 := k9.cell 0 _ rfl
        have e1 := k9.cell 1 _ rfl
        have e2 := k9.cell 2 _ rfl
        have e3 := k9.cell 3 _ rfl
        have e4 := k9.cell 4 _ rfl
        have ef := k9.free
        clear k9
        go_wp2_with fail
        refine (enc_any _ _ _ _ _ _).mono ?_
        rintro e w20 ⟨z, q, rfl, hz, hb20⟩
        have HD0 : Hid (DW w w20 base B a zs cap u7 xs) := ((SR.put HS12.out _ _ _ _ _).below hb20).dw
        clear e0 e1 e2 e3 e4 ef hb20 HS12
        have HZ0 : Hid (0 ≤ z ∧ z ≤ 4294967295) := hz
        clear hz
        go_wp2_with fail
        refine (draw_once _ B _ _ _ 30 HD0.out.ct.cur (by omega) (by omega)).mono ?_
        rintro e w21 ⟨q21, rfl, hc21, ht21⟩
        have HD1 : Hid (DW w w21 base B a zs cap u7 xs) := HD0.out.step hc21 ht21
        clear hc21 ht21 HD0
        cases q21
        · have HD : Hid (DW w w21 base B a zs cap u7 xs) := HD1.out
          have HZR : Hid (0 ≤ z ∧ z ≤ 4294967295) := HZ0.out
          clear HD1 HZ0
          have hal : Below w21.heap.size w21 (w21.alloc (.cells #[.int .u32 z] 26)) := (Below.refl _ _).alloc (Nat.le_refl _) _
          have HPA : Hid (DW w (w21.alloc (.cells #[.int .u32 z] 26)) base B a zs cap u7 xs) := HD.out.below hal
          have hownA : (w21.alloc (.cells #[.int .u32 z] 26)).ownsRow base 26 1 u7 xs.length (xs.map (Value.int .u32)) := HPA.out.own
          have HSZ : Hid (base ≤ (w21.alloc (.cells #[.int .u32 z] 26)).heap.size) := HPA.out.ls
          have HZ : Hid (∀ (gg cap1 : Nat) (w9 : World), w9.ownsRow base 26 1 (.slice (some ⟨gg, 0, none⟩) (xs.length + 1) cap1) (xs.length + 1) (xs.map (Value.int .u32) ++ [.int .u32 z]) → (w21.alloc (.cells #[.int .u32 z] 26)).grownBy w9 u7.ownBlock → ∃ xs', xs'.length = i + 1 ∧ (∀ x ∈ xs', 0 ≤ x ∧ x ≤ 4294967295) ∧ DW w w9 base B a zs cap (.slice (some ⟨gg, 0, none⟩) (xs.length + 1) cap1) xs') := fun gg cap1 w9 g1 g2 => ⟨xs ++ [z], by rw [List.length_append, HXL.out]; rfl, fun x hx => by rcases List.mem_append.1 hx with h | h; exact HXR.out x h; rw [List.mem_singleton.1 h]; exact HZR.out, HPA.out.low (Below.grown (Below.refl _ _) g2 HSZ.out (fun g e => (HPA.out.own.lt g e).1)) (OwnU.snoc g1) (by simp)⟩
          clear hal HD HPA
          go_wp2_with (at_builtin; (refine wpList_append_lies _ rfl (.tmp 91) (.tmp 93) 25 rfl base 26 iS (.int .u32 0) 1 4 Try.underlying25 HIN.out.1 HIN.out.2.1 HIN.out.2.2.1 HIN.out.2.2.2 rfl (by omega) u7 xs.length (xs.map (Value.int .u32)) rfl hownA _ 1 1 [.int .u32 z] rfl rfl (news_u _ _ _ (by simp)) (one_u _) (by omega) (by unfold maxLen; omega) (by omega) HSZ.out _ rfl ?_; intro gg cap1 w9 hown1 hgrow hat hlt1; have HYY : Hid _ := HZ.out gg cap1 w9 hown1 hgrow; clear hown1 hgrow hat hlt1))
          go_roundw
          case rel => exact ⟨i + 1, by omega, by go_num, HYY⟩
          case measure => simp [intOf]; omega
        · clear HZ0
          go_wp2_with fail
          refine (draw_word _ B _ _ _ HD1.out.ct.cur).mono ?_
          rintro e w22 ⟨x7, rfl, h70, h71, hc22, ht22⟩
          have HD : Hid (DW w w22 base B a zs cap u7 xs) := HD1.out.step hc22 ht22
          have HZR : Hid (0 ≤ x7 ∧ x7 ≤ 4294967295) := ⟨h70, h71⟩
          clear hc22 ht22 HD1 h70 h71
          have hal : Below w22.heap.size w22 (w22.alloc (.cells #[.int .u32 x7] 26)) := (Below.refl _ _).alloc (Nat.le_refl _) _
          have HPA : Hid (DW w (w22.alloc (.cells #[.int .u32 x7] 26)) base B a zs cap u7 xs) := HD.out.below hal
          have hownA : (w22.alloc (.cells #[.int .u32 x7] 26)).ownsRow base 26 1 u7 xs.length (xs.map (Value.int .u32)) := HPA.out.own
          have HSZ : Hid (base ≤ (w22.alloc (.cells #[.int .u32 x7] 26)).heap.size) := HPA.out.ls
          have HZ : Hid (∀ (gg cap1 : Nat) (w9 : World), w9.ownsRow base 26 1 (.slice (some ⟨gg, 0, none⟩) (xs.length + 1) cap1) (xs.length + 1) (xs.map (Value.int .u32) ++ [.int .u32 x7]) → (w22.alloc (.cells #[.int .u32 x7] 26)).grownBy w9 u7.ownBlock → ∃ xs', xs'.length = i + 1 ∧ (∀ x ∈ xs', 0 ≤ x ∧ x ≤ 4294967295) ∧ DW w w9 base B a zs cap (.slice (some ⟨gg, 0, none⟩) (xs.length + 1) cap1) xs') := fun gg cap1 w9 g1 g2 => ⟨xs ++ [x7], by rw [List.length_append, HXL.out]; rfl, fun x hx => by rcases List.mem_append.1 hx with h | h; exact HXR.out x h; rw [List.mem_singleton.1 h]; exact HZR.out, HPA.out.low (Below.grown (Below.refl _ _) g2 HSZ.out (fun g e => (HPA.out.own.lt g e).1)) (OwnU.snoc g1) (by simp)⟩
          clear hal HD HPA
          go_wp2_with (at_builtin; (refine wpList_append_lies _ rfl (.tmp 91) (.tmp 93) 25 rfl base 26 iS (.int .u32 0) 1 4 Try.underlying25 HIN.out.1 HIN.out.2.1 HIN.out.2.2.1 HIN.out.2.2.2 rfl (by omega) u7 xs.length (xs.map (Value.int .u32)) rfl hownA _ 1 1 [.int .u32 x7] rfl rfl (news_u _ _ _ (by simp)) (one_u _) (by omega) (by unfold maxLen; omega) (by omega) HSZ.out _ rfl ?_; intro gg cap1 w9 hown1 hgrow hat hlt1; have HYY : Hid _ := HZ.out gg cap1 w9 hown1 hgrow; clear hown1 hgrow hat hlt1))
          go_roundw
          case rel => exact ⟨i + 1, by omega, by go_num, HYY⟩
          case measure => simp [intOf]; omega
      · have hq1 : (y3 == 1) = false := beq_eq_false_iff_ne.2 hx1
        clear hx1
        by_cases hx2 : y3 = 2
        · have hq2 : (y3 == 2) = true := by simp [hx2]
          clear hx2
          go_wp2_with fail
          refine (draw_below _ B _ _ _ 5 HS3.out.dw.ct.cur (by omega) (by omega)).mono ?_
          rintro e w10 ⟨y10, rfl, hy10, hz10, hc10, ht10⟩
          have HS10 : Hid (SR w w10 base B a zs cap u7 xs P9 (.int .i64 oi) (.int .i64 oa) (.int .i64 ob) (.int .i64 oc) (.int .i64 om)) := HS3.out.step hc10 ht10
          clear hc10 ht10 HS3
          have k9 := HS10.out.bk
          have e0 := k9.cell 0 _ rfl
          have e1 := k9.cell 1 _ rfl
          have e2 := k9.cell 2 _ rfl
          have e3 := k9.cell 3 _ rfl
          have e4 := k9.cell 4 _ rfl
          have ef := k9.free
          clear k9
          go_wp2_with fail
          refine (enc_any _ _ _ _ _ _).mono ?_
          rintro e w20 ⟨z, q, rfl, hz, hb20⟩
          have HD0 : Hid (DW w w20 base B a zs cap u7 xs) := ((SR.put HS10.out _ _ _ _ _).below hb20).dw
          clear e0 e1 e2 e3 e4 ef hb20 HS10
          have HZ0 : Hid (0 ≤ z ∧ z ≤ 4294967295) := hz
          clear hz
          go_wp2_with fail
          refine (draw_once _ B _ _ _ 30 HD0.out.ct.cur (by omega) (by omega)).mono ?_
          rintro e w21 ⟨q21, rfl, hc21, ht21⟩
          have HD1 : Hid (DW w w21 base B a zs cap u7 xs) := HD0.out.step hc21 ht21
          clear hc21 ht21 HD0
          cases q21
          · have HD : Hid (DW w w21 base B a zs cap u7 xs) := HD1.out
            have HZR : Hid (0 ≤ z ∧ z ≤ 4294967295) := HZ0.out
            clear HD1 HZ0
            have hal : Below w21.heap.size w21 (w21.alloc (.cells #[.int .u32 z] 26)) := (Below.refl _ _).alloc (Nat.le_refl _) _
            have HPA : Hid (DW w (w21.alloc (.cells #[.int .u32 z] 26)) base B a zs cap u7 xs) := HD.out.below hal
            have hownA : (w21.alloc (.cells #[.int .u32 z] 26)).ownsRow base 26 1 u7 xs.length (xs.map (Value.int .u32)) := HPA.out.own
            have HSZ : Hid (base ≤ (w21.alloc (.cells #[.int .u32 z] 26)).heap.size) := HPA.out.ls
            have HZ : Hid (∀ (gg cap1 : Nat) (w9 : World), w9.ownsRow base 26 1 (.slice (some ⟨gg, 0, none⟩) (xs.length + 1) cap1) (xs.length + 1) (xs.map (Value.int .u32) ++ [.int .u32 z]) → (w21.alloc (.cells #[.int .u32 z] 26)).grownBy w9 u7.ownBlock → ∃ xs', xs'.length = i + 1 ∧ (∀ x ∈ xs', 0 ≤ x ∧ x ≤ 4294967295) ∧ DW w w9 base B a zs cap (.slice (some ⟨gg, 0, none⟩) (xs.length + 1) cap1) xs') := fun gg cap1 w9 g1 g2 => ⟨xs ++ [z], by rw [List.length_append, HXL.out]; rfl, fun x hx => by rcases List.mem_append.1 hx with h | h; exact HXR.out x h; rw [List.mem_singleton.1 h]; exact HZR.out, HPA.out.low (Below.grown (Below.refl _ _) g2 HSZ.out (fun g e => (HPA.out.own.lt g e).1)) (OwnU.snoc g1) (by simp)⟩
            clear hal HD HPA
            go_wp2_with (at_builtin; (refine wpList_append_lies _ rfl (.tmp 91) (.tmp 93) 25 rfl base 26 iS (.int .u32 0) 1 4 Try.underlying25 HIN.out.1 HIN.out.2.1 HIN.out.2.2.1 HIN.out.2.2.2 rfl (by omega) u7 xs.length (xs.map (Value.int .u32)) rfl hownA _ 1 1 [.int .u32 z] rfl rfl (news_u _ _ _ (by simp)) (one_u _) (by omega) (by unfold maxLen; omega) (by omega) HSZ.out _ rfl ?_; intro gg cap1 w9 hown1 hgrow hat hlt1; have HYY : Hid _ := HZ.out gg cap1 w9 hown1 hgrow; clear hown1 hgrow hat hlt1))
            go_roundw
            case rel => exact ⟨i + 1, by omega, by go_num, HYY⟩
            case measure => simp [intOf]; omega
          · clear HZ0
            go_wp2_with fail
            refine (draw_word _ B _ _ _ HD1.out.ct.cur).mono ?_
            rintro e w22 ⟨x7, rfl, h70, h71, hc22, ht22⟩
            have HD : Hid (DW w w22 base B a zs cap u7 xs) := HD1.out.step hc22 ht22
            have HZR : Hid (0 ≤ x7 ∧ x7 ≤ 4294967295) := ⟨h70, h71⟩
            clear hc22 ht22 HD1 h70 h71
            have hal : Below w22.heap.size w22 (w22.alloc (.cells #[.int .u32 x7] 26)) := (Below.refl _ _).alloc (Nat.le_refl _) _
            have HPA : Hid (DW w (w22.alloc (.cells #[.int .u32 x7] 26)) base B a zs cap u7 xs) := HD.out.below hal
            have hownA : (w22.alloc (.cells #[.int .u32 x7] 26)).ownsRow base 26 1 u7 xs.length (xs.map (Value.int .u32)) := HPA.out.own
            have HSZ : Hid (base ≤ (w22.alloc (.cells #[.int .u32 x7] 26)).heap.size) := HPA.out.ls
            have HZ : Hid (∀ (gg cap1 : Nat) (w9 : World), w9.ownsRow base 26 1 (.slice (some ⟨gg, 0, none⟩) (xs.length + 1) cap1) (xs.length + 1) (xs.map (Value.int .u32) ++ [.int .u32 x7]) → (w22.alloc (.cells #[.int .u32 x7] 26)).grownBy w9 u7.ownBlock → ∃ xs', xs'.length = i + 1 ∧ (∀ x ∈ xs', 0 ≤ x ∧ x ≤ 4294967295) ∧ DW w w9 base B a zs cap (.slice (some ⟨gg, 0, none⟩) (xs.length + 1) cap1) xs') := fun gg cap1 w9 g1 g2 => ⟨xs ++ [x7], by rw [List.length_append, HXL.out]; rfl, fun x hx => by rcases List.mem_append.1 hx with h | h; exact HXR.out x h; rw [List.mem_singleton.1 h]; exact HZR.out, HPA.out.low (Below.grown (Below.refl _ _) g2 HSZ.out (fun g e => (HPA.out.own.lt g e).1)) (OwnU.snoc g1) (by simp)⟩
            clear hal HD HPA
            go_wp2_with (at_builtin; (refine wpList_append_lies _ rfl (.tmp 91) (.tmp 93) 25 rfl base 26 iS (.int .u32 0) 1 4 Try.underlying25 HIN.out.1 HIN.out.2.1 HIN.out.2.2.1 HIN.out.2.2.2 rfl (by omega) u7 xs.length (xs.map (Value.int .u32)) rfl hownA _ 1 1 [.int .u32 x7] rfl rfl (news_u _ _ _ (by simp)) (one_u _) (by omega) (by unfold maxLen; omega) (by omega) HSZ.out _ rfl ?_; intro gg cap1 w9 hown1 hgrow hat hlt1; have HYY : Hid _ := HZ.out gg cap1 w9 hown1 hgrow; clear hown1 hgrow hat hlt1))
            go_roundw
            case rel => exact ⟨i + 1, by omega, by go_num, HYY⟩
            case measure => simp [intOf]; omega
        · have hq2 : (y3 == 2) = false := beq_eq_false_iff_ne.2 hx2
          clear hx2
          by_cases hx3 : y3 = 3
          · have hq3 : (y3 == 3) = true := by simp [hx3]
            clear hx3
            go_wp2_with fail
            refine (draw_below _ B _ _ _ 12 HS3.out.dw.ct.cur (by omega) (by omega)).mono ?_
            rintro e w10 ⟨y10, rfl, hy10, hz10, hc10, ht10⟩
            have HS10 : Hid (SR w w10 base B a zs cap u7 xs P9 (.int .i64 oi) (.int .i64 oa) (.int .i64 ob) (.int .i64 oc) (.int .i64 om)) := HS3.out.step hc10 ht10
            clear hc10 ht10 HS3
            go_wp2_with fail
            refine (draw_below _ B _ _ _ 5 HS10.out.dw.ct.cur (by omega) (by omega)).mono ?_
            rintro e w11 ⟨y11, rfl, hy11, hz11, hc11, ht11⟩
            have HS11 : Hid (SR w w11 base B a zs cap u7 xs P9 (.int .i64 oi) (.int .i64 oa) (.int .i64 ob) (.int .i64 oc) (.int .i64 om)) := HS10.out.step hc11 ht11
            clear hc11 ht11 HS10
            go_wp2_with fail
            refine (draw_below _ B _ _ _ 5 HS11.out.dw.ct.cur (by omega) (by omega)).mono ?_
            rintro e w12 ⟨y12, rfl, hy12, hz12, hc12, ht12⟩
            have HS12 : Hid (SR w w12 base B a zs cap u7 xs P9 (.int .i64 oi) (.int .i64 oa) (.int .i64 ob) (.int .i64 oc) (.int .i64 om)) := HS11.out.step hc12 ht12
            clear hc12 ht12 HS11
            go_wp2_with fail
            refine (draw_below _ B _ _ _ 5 HS12.out.dw.ct.cur (by omega) (by omega)).mono ?_
            rintro e w13 ⟨y13, rfl, hy13, hz13, hc13, ht13⟩
            have HS13 : Hid (SR w w13 base B a zs cap u7 xs P9 (.int .i64 oi) (.int .i64 oa) (.int .i64 ob) (.int .i64 oc) (.int .i64 om)) := HS12.out.step hc13 ht13
            clear hc13 ht13 HS12
            have k9 := HS13.out.bk
            have e0 := k9.cell 0 _ rfl
            have e1 := k9.cell 1 _ rfl
            have e2 := k9.cell 2 _ rfl
            have e3 := k9.cell 3 _ rfl
            have e4 := k9.cell 4 _ rfl
            have ef := k9.free
            clear k9
            go_wp2_with fail
            refine (enc_any _ _ _ _ _ _).mono ?_
            rintro e w20 ⟨z, q, rfl, hz, hb20⟩
            have HD0 : Hid (DW w w20 base B a zs cap u7 xs) := ((SR.put HS13.out _ _ _ _ _).below hb20).dw
            clear e0 e1 e2 e3 e4 ef hb20 HS13
            have HZ0 : Hid (0 ≤ z ∧ z ≤ 4294967295) := hz
            clear hz
            go_wp2_with fail
            refine (draw_once _ B _ _ _ 30 HD0.out.ct.cur (by omega) (by omega)).mono ?_
            rintro e w21 ⟨q21, rfl, hc21, ht21⟩
            have HD1 : Hid (DW w w21 base B a zs cap u7 xs) := HD0.out.step hc21 ht21
            clear hc21 ht21 HD0
            cases q21
            · have HD : Hid (DW w w21 base B a zs cap u7 xs) := HD1.out
              have HZR : Hid (0 ≤ z ∧ z ≤ 4294967295) := HZ0.out
              clear HD1 HZ0
              have hal : Below w21.heap.size w21 (w21.alloc (.cells #[.int .u32 z] 26)) := (Below.refl _ _).alloc (Nat.le_refl _) _
              have HPA : Hid (DW w (w21.alloc (.cells #[.int .u32 z] 26)) base B a zs cap u7 xs) := HD.out.below hal
              have hownA : (w21.alloc (.cells #[.int .u32 z] 26)).ownsRow base 26 1 u7 xs.length (xs.map (Value.int .u32)) := HPA.out.own
              have HSZ : Hid (base ≤ (w21.alloc (.cells #[.int .u32 z] 26)).heap.size) := HPA.out.ls
              have HZ : Hid (∀ (gg cap1 : Nat) (w9 : World), w9.ownsRow base 26 1 (.slice (some ⟨gg, 0, none⟩) (xs.length + 1) cap1) (xs.length + 1) (xs.map (Value.int .u32) ++ [.int .u32 z]) → (w21.alloc (.cells #[.int .u32 z] 26)).grownBy w9 u7.ownBlock → ∃ xs', xs'.length = i + 1 ∧ (∀ x ∈ xs', 0 ≤ x ∧ x ≤ 4294967295) ∧ DW w w9 base B a zs cap (.slice (some ⟨gg, 0, none⟩) (xs.length + 1) cap1) xs') := fun gg cap1 w9 g1 g2 => ⟨xs ++ [z], by rw [List.length_append, HXL.out]; rfl, fun x hx => by rcases List.mem_append.1 hx with h | h; exact HXR.out x h; rw [List.mem_singleton.1 h]; exact HZR.out, HPA.out.low (Below.grown (Below.refl _ _) g2 HSZ.out (fun g e => (HPA.out.own.lt g e).1)) (OwnU.snoc g1) (by simp)⟩
              clear hal HD HPA
              go_wp2_with (at_builtin; (refine wpList_append_lies _ rfl (.tmp 91) (.tmp 93) 25 rfl base 26 iS (.int .u32 0) 1 4 Try.underlying25 HIN.out.1 HIN.out.2.1 HIN.out.2.2.1 HIN.out.2.2.2 rfl (by omega) u7 xs.length (xs.map (Value.int .u32)) rfl hownA _ 1 1 [.int .u32 z] rfl rfl (news_u _ _ _ (by simp)) (one_u _) (by omega) (by unfold maxLen; omega) (by omega) HSZ.out _ rfl ?_; intro gg cap1 w9 hown1 hgrow hat hlt1; have HYY : Hid _ := HZ.out gg cap1 w9 hown1 hgrow; clear hown1 hgrow hat hlt1))
              go_roundw
              case rel => exact ⟨i + 1, by omega, by go_num, HYY⟩
              case measure => simp [intOf]; omega
            · clear HZ0
              go_wp2_with fail
              refine (draw_word _ B _ _ _ HD1.out.ct.cur).mono ?_
              rintro e w22 ⟨x7, rfl, h70, h71, hc22, ht22⟩
              have HD : Hid (DW w w22 base B a zs cap u7 xs) := HD1.out.step hc22 ht22
              have HZR : Hid (0 ≤ x7 ∧ x7 ≤ 4294967295) := ⟨h70, h71⟩
              clear hc22 ht22 HD1 h70 h71
              have hal : Below w22.heap.size w22 (w22.alloc (.cells #[.int .u32 x7] 26)) := (Below.refl _ _).alloc (Nat.le_refl _) _
              have HPA : Hid (DW w (w22.alloc (.cells #[.int .u32 x7] 26)) base B a zs cap u7 xs) := HD.out.below hal
              have hownA : (w22.alloc (.cells #[.int .u32 x7] 26)).ownsRow base 26 1 u7 xs.length (xs.map (Value.int .u32)) := HPA.out.own
              have HSZ : Hid (base ≤ (w22.alloc (.cells #[.int .u32 x7] 26)).heap.size) := HPA.out.ls
              have HZ : Hid (∀ (gg cap1 : Nat) (w9 : World), w9.ownsRow base 26 1 (.slice (some ⟨gg, 0, none⟩) (xs.length + 1) cap1) (xs.length + 1) (xs.map (Value.int .u32) ++ [.int .u32 x7]) → (w22.alloc (.cells #[.int .u32 x7] 26)).grownBy w9 u7.ownBlock → ∃ xs', xs'.length = i + 1 ∧ (∀ x ∈ xs', 0 ≤ x ∧ x ≤ 4294967295) ∧ DW w w9 base B a zs cap (.slice (some ⟨gg, 0, none⟩) (xs.length + 1) cap1) xs') := fun gg cap1 w9 g1 g2 => ⟨xs ++ [x7], by rw [List.length_append, HXL.out]; rfl, fun x hx => by rcases List.mem_append.1 hx with h | h; exact HXR.out x h; rw [List.mem_singleton.1 h]; exact HZR.out, HPA.out.low (Below.grown (Below.refl _ _) g2 HSZ.out (fun g e => (HPA.out.own.lt g e).1)) (OwnU.snoc g1) (by simp)⟩
              clear hal HD HPA
              go_wp2_with (at_builtin; (refine wpList_append_lies _ rfl (.tmp 91) (.tmp 93) 25 rfl base 26 iS (.int .u32 0) 1 4 Try.underlying25 HIN.out.1 HIN.out.2.1 HIN.out.2.2.1 HIN.out.2.2.2 rfl (by omega) u7 xs.length (xs.map (Value.int .u32)) rfl hownA _ 1 1 [.int .u32 x7] rfl rfl (news_u _ _ _ (by simp)) (one_u _) (by omega) (by unfold maxLen; omega) (by omega) HSZ.out _ rfl ?_; intro gg cap1 w9 hown1 hgrow hat hlt1; have HYY : Hid _ := HZ.out gg cap1 w9 hown1 hgrow; clear hown1 hgrow hat hlt1))
              go_roundw
              case rel => exact ⟨i + 1, by omega, by go_num, HYY⟩
              case measure => simp [intOf]; omega
          · have hq3 : (y3 == 3) = false := beq_eq_false_iff_ne.2 hx3
            clear hx3
            by_cases hx4 : y3 = 4
            · have hq4 : (y3 == 4) = true := by simp [hx4]
              clear hx4
              go_wp2_with fail
              refine (draw_pick _ B w3.heap.size _ _ _ [19, 20, 21] (HS3.out.dw.ct.cur.below ((Below.refl _ _).alloc (Nat.le_refl _) _)) (own_litD .i64 w3 3 _) (by have := HS3.out.dw.ct.cur.lt; omega) (by decide) (by decide)).mono ?_
              rintro e w10 ⟨y10, rfl, hm10, hc10, ht10⟩
              have HS10 : Hid (SR w w10 base B a zs cap u7 xs P9 (.int .i64 oi) (.int .i64 oa) (.int .i64 ob) (.int .i64 oc) (.int .i64 om)) := (HS3.out.below ((Below.refl _ _).alloc (Nat.le_refl _) _)).step hc10 ht10
              have hy10 : 0 ≤ y10 ∧ y10 ≤ 100 := by simp at hm10; omega
              clear hc10 ht10 hm10 HS3
              go_wp2_with fail
              refine (draw_below _ B _ _ _ 5 HS10.out.dw.ct.cur (by omega) (by omega)).mono ?_
              rintro e w11 ⟨y11, rfl, hy11, hz11, hc11, ht11⟩
              have HS11 : Hid (SR w w11 base B a zs cap u7 xs P9 (.int .i64 oi) (.int .i64 oa) (.int .i64 ob) (.int .i64 oc) (.int .i64 om)) := HS10.out.step hc11 ht11
              clear hc11 ht11 HS10
              go_wp2_with fail
              refine (draw_below _ B _ _ _ 5 HS11.out.dw.ct.cur (by omega) (by omega)).mono ?_
              rintro e w12 ⟨y12, rfl, hy12, hz12, hc12, ht12⟩
              have HS12 : Hid (SR w w12 base B a zs cap u7 xs P9 (.int .i64 oi) (.int .i64 oa) (.int .i64 ob) (.int .i64 oc) (.int .i64 om)) := HS11.out.step hc12 ht12
              clear hc12 ht12 HS11
              go_wp2_with fail
              refine (draw_below _ B _ _ _ 5 HS12.out.dw.ct.cur (by omega) (by omega)).mono ?_
              rintro e w13 ⟨y13, rfl, hy13, hz13, hc13, ht13⟩
              have HS13 : Hid (SR w w13 base B a zs cap u7 xs P9 (.int .i64 oi) (.int .i64 oa) (.int .i64 ob) (.int .i64 oc) (.int .i64 om)) := HS12.out.step hc13 ht13
              clear hc13 ht13 HS12
              have k9 := HS13.out.bk
              have e0 := k9.cell 0 _ rfl
              have e1 := k9.cell 1 _ rfl
              have e2 := k9.cell 2 _ rfl
              have e3 := k9.cell 3 _ rfl
              have e4 := k9.cell 4 _ rfl
              have ef := k9.free
              clear k9
              go_wp2_with fail
              refine (enc_any _ _ _ _ _ _).mono ?_
              rintro e w20 ⟨z, q, rfl, hz, hb20⟩
              have HD0 : Hid (DW w w20 base B a zs cap u7 xs) := ((SR.put HS13.out _ _ _ _ _).below hb20).dw
              clear e0 e1 e2 e3 e4 ef hb20 HS13
              have HZ0 : Hid (0 ≤ z ∧ z ≤ 4294967295) := hz
              clear hz
              go_wp2_with fail
              refine (draw_once _ B _ _ _ 30 HD0.out.ct.cur (by omega) (by omega)).mono ?_
              rintro e w21 ⟨q21, rfl, hc21, ht21⟩
              have HD1 : Hid (DW w w21 base B a zs cap u7 xs) := HD0.out.step hc21 ht21
              clear hc21 ht21 HD0
              cases q21
              · have HD : Hid (DW w w21 base B a zs cap u7 xs) := HD1.out
                have HZR : Hid (0 ≤ z ∧ z ≤ 4294967295) := HZ0.out
                clear HD1 HZ0
                have hal : Below w21.heap.size w21 (w21.alloc (.cells #[.int .u32 z] 26)) := (Below.refl _ _).alloc (Nat.le_refl _) _
                have HPA : Hid (DW w (w21.alloc (.cells #[.int .u32 z] 26)) base B a zs cap u7 xs) := HD.out.below hal
                have hownA : (w21.alloc (.cells #[.int .u32 z] 26)).ownsRow base 26 1 u7 xs.length (xs.map (Value.int .u32)) := HPA.out.own
                have HSZ : Hid (base ≤ (w21.alloc (.cells #[.int .u32 z] 26)).heap.size) := HPA.out.ls
                have HZ : Hid (∀ (gg cap1 : Nat) (w9 : World), w9.ownsRow base 26 1 (.slice (some ⟨gg, 0, none⟩) (xs.length + 1) cap1) (xs.length + 1) (xs.map (Value.int .u32) ++ [.int .u32 z]) → (w21.alloc (.cells #[.int .u32 z] 26)).grownBy w9 u7.ownBlock → ∃ xs', xs'.length = i + 1 ∧ (∀ x ∈ xs', 0 ≤ x ∧ x ≤ 4294967295) ∧ DW w w9 base B a zs cap (.slice (some ⟨gg, 0, none⟩) (xs.length + 1) cap1) xs') := fun gg cap1 w9 g1 g2 => ⟨xs ++ [z], by rw [List.length_append, HXL.out]; rfl, fun x hx => by rcases List.mem_append.1 hx with h | h; exact HXR.out x h; rw [List.mem_singleton.1 h]; exact HZR.out, HPA.out.low (Below.grown (Below.refl _ _) g2 HSZ.out (fun g e => (HPA.out.own.lt g e).1)) (OwnU.snoc g1) (by simp)⟩
                clear hal HD HPA
                go_wp2_with (at_builtin; (refine wpList_append_lies _ rfl (.tmp 91) (.tmp 93) 25 rfl base 26 iS (.int .u32 0) 1 4 Try.underlying25 HIN.out.1 HIN.out.2.1 HIN.out.2.2.1 HIN.out.2.2.2 rfl (by omega) u7 xs.length (xs.map (Value.int .u32)) rfl hownA _ 1 1 [.int .u32 z] rfl rfl (news_u _ _ _ (by simp)) (one_u _) (by omega) (by unfold maxLen; omega) (by omega) HSZ.out _ rfl ?_; intro gg cap1 w9 hown1 hgrow hat hlt1; have HYY : Hid _ := HZ.out gg cap1 w9 hown1 hgrow; clear hown1 hgrow hat hlt1))
                go_roundw
                case rel => exact ⟨i + 1, by omega, by go_num, HYY⟩
                case measure => simp [intOf]; omega
              · clear HZ0
                go_wp2_with fail
                refine (draw_word _ B _ _ _ HD1.out.ct.cur).mono ?_
                rintro e w22 ⟨x7, rfl, h70, h71, hc22, ht22⟩
                have HD : Hid (DW w w22 base B a zs cap u7 xs) := HD1.out.step hc22 ht22
                have HZR : Hid (0 ≤ x7 ∧ x7 ≤ 4294967295) := ⟨h70, h71⟩
                clear hc22 ht22 HD1 h70 h71
                have hal : Below w22.heap.size w22 (w22.alloc (.cells #[.int .u32 x7] 26)) := (Below.refl _ _).alloc (Nat.le_refl _) _
                have HPA : Hid (DW w (w22.alloc (.cells #[.int .u32 x7] 26)) base B a zs cap u7 xs) := HD.out.below hal
                have hownA : (w22.alloc (.cells #[.int .u32 x7] 26)).ownsRow base 26 1 u7 xs.length (xs.map (Value.int .u32)) := HPA.out.own
                have HSZ : Hid (base ≤ (w22.alloc (.cells #[.int .u32 x7] 26)).heap.size) := HPA.out.ls
                have HZ : Hid (∀ (gg cap1 : Nat) (w9 : World), w9.ownsRow base 26 1 (.slice (some ⟨gg, 0, none⟩) (xs.length + 1) cap1) (xs.length + 1) (xs.map (Value.int .u32) ++ [.int .u32 x7]) → (w22.alloc (.cells #[.int .u32 x7] 26)).grownBy w9 u7.ownBlock → ∃ xs', xs'.length = i + 1 ∧ (∀ x ∈ xs', 0 ≤ x ∧ x ≤ 4294967295) ∧ DW w w9 base B a zs cap (.slice (some ⟨gg, 0, none⟩) (xs.length + 1) cap1) xs') := fun gg cap1 w9 g1 g2 => ⟨xs ++ [x7], by rw [List.length_append, HXL.out]; rfl, fun x hx => by rcases List.mem_append.1 hx with h | h; exact HXR.out x h; rw [List.mem_singleton.1 h]; exact HZR.out, HPA.out.low (Below.grown (Below.refl _ _) g2 HSZ.out (fun g e => (HPA.out.own.lt g e).1)) (OwnU.snoc g1) (by simp)⟩
                clear hal HD HPA
                go_wp2_with (at_builtin; (refine wpList_append_lies _ rfl (.tmp 91) (.tmp 93) 25 rfl base 26 iS (.int .u32 0) 1 4 Try.underlying25 HIN.out.1 HIN.out.2.1 HIN.out.2.2.1 HIN.out.2.2.2 rfl (by omega) u7 xs.length (xs.map (Value.int .u32)) rfl hownA _ 1 1 [.int .u32 x7] rfl rfl (news_u _ _ _ (by simp)) (one_u _) (by omega) (by unfold maxLen; omega) (by omega) HSZ.out _ rfl ?_; intro gg cap1 w9 hown1 hgrow hat hlt1; have HYY : Hid _ := HZ.out gg cap1 w9 hown1 hgrow; clear hown1 hgrow hat hlt1))
                go_roundw
                case rel => exact ⟨i + 1, by omega, by go_num, HYY⟩
                case measure => simp [intOf]; omega
            · have hq4 : (y3 == 4) = false := beq_eq_false_iff_ne.2 hx4
              clear hx4
              have k9 := HS3.out.bk
              have e0 := k9.cell 0 _ rfl
              have e1 := k9.cell 1 _ rfl
              have e2 := k9.cell 2 _ rfl
              have e3 := k9.cell 3 _ rfl
              have e4 := k9.cell 4 _ rfl
              have ef := k9.free
              clear k9
              go_wp2_with fail
              refine (enc_any _ _ _ _ _ _).mono ?_
              rintro e w20 ⟨z, q, rfl, hz, hb20⟩
              have HD0 : Hid (DW w w20 base B a zs cap u7 xs) := (HS3.out.below hb20).dw
              clear e0 e1 e2 e3 e4 ef hb20 HS3
              have HZ0 : Hid (0 ≤ z ∧ z ≤ 4294967295) := hz
              clear hz
              go_wp2_with fail
              refine (draw_once _ B _ _ _ 30 HD0.out.ct.cur (by omega) (by omega)).mono ?_
              rintro e w21 ⟨q21, rfl, hc21, ht21⟩
              have HD1 : Hid (DW w w21 base B a zs cap u7 xs) := HD0.out.step hc21 ht21
              clear hc21 ht21 HD0
              cases q21
              · have HD : Hid (DW w w21 base B a zs cap u7 xs) := HD1.out
                have HZR : Hid (0 ≤ z ∧ z ≤ 4294967295) := HZ0.out
                clear HD1 HZ0
                have hal : Below w21.heap.size w21 (w21.alloc (.cells #[.int .u32 z] 26)) := (Below.refl _ _).alloc (Nat.le_refl _) _
                have HPA : Hid (DW w (w21.alloc (.cells #[.int .u32 z] 26)) base B a zs cap u7 xs) := HD.out.below hal
                have hownA : (w21.alloc (.cells #[.int .u32 z] 26)).ownsRow base 26 1 u7 xs.length (xs.map (Value.int .u32)) := HPA.out.own
                have HSZ : Hid (base ≤ (w21.alloc (.cells #[.int .u32 z] 26)).heap.size) := HPA.out.ls
                have HZ : Hid (∀ (gg cap1 : Nat) (w9 : World), w9.ownsRow base 26 1 (.slice (some ⟨gg, 0, none⟩) (xs.length + 1) cap1) (xs.length + 1) (xs.map (Value.int .u32) ++ [.int .u32 z]) → (w21.alloc (.cells #[.int .u32 z] 26)).grownBy w9 u7.ownBlock → ∃ xs', xs'.length = i + 1 ∧ (∀ x ∈ xs', 0 ≤ x ∧ x ≤ 4294967295) ∧ DW w w9 base B a zs cap (.slice (some ⟨gg, 0, none⟩) (xs.length + 1) cap1) xs') := fun gg cap1 w9 g1 g2 => ⟨xs ++ [z], by rw [List.length_append, HXL.out]; rfl, fun x hx => by rcases List.mem_append.1 hx with h | h; exact HXR.out x h; rw [List.mem_singleton.1 h]; exact HZR.out, HPA.out.low (Below.grown (Below.refl _ _) g2 HSZ.out (fun g e => (HPA.out.own.lt g e).1)) (OwnU.snoc g1) (by simp)⟩
                clear hal HD HPA
                go_wp2_with (at_builtin; (refine wpList_append_lies _ rfl (.tmp 91) (.tmp 93) 25 rfl base 26 iS (.int .u32 0) 1 4 Try.underlying25 HIN.out.1 HIN.out.2.1 HIN.out.2.2.1 HIN.out.2.2.2 rfl (by omega) u7 xs.length (xs.map (Value.int .u32)) rfl hownA _ 1 1 [.int .u32 z] rfl rfl (news_u _ _ _ (by simp)) (one_u _) (by omega) (by unfold maxLen; omega) (by omega) HSZ.out _ rfl ?_; intro gg cap1 w9 hown1 hgrow hat hlt1; have HYY : Hid _ := HZ.out gg cap1 w9 hown1 hgrow; clear hown1 hgrow hat hlt1))
                go_roundw
                case rel => exact ⟨i + 1, by omega, by go_num, HYY⟩
                case measure => simp [intOf]; omega
              · clear HZ0
                go_wp2_with fail
                refine (draw_word _ B _ _ _ HD1.out.ct.cur).mono ?_
                rintro e w22 ⟨x7, rfl, h70, h71, hc22, ht22⟩
                have HD : Hid (DW w w22 base B a zs cap u7 xs) := HD1.out.step hc22 ht22
                have HZR : Hid (0 ≤ x7 ∧ x7 ≤ 4294967295) := ⟨h70, h71⟩
                clear hc22 ht22 HD1 h70 h71
                have hal : Below w22.heap.size w22 (w22.alloc (.cells #[.int .u32 x7] 26)) := (Below.refl _ _).alloc (Nat.le_refl _) _
                have HPA : Hid (DW w (w22.alloc (.cells #[.int .u32 x7] 26)) base B a zs cap u7 xs) := HD.out.below hal
                have hownA : (w22.alloc (.cells #[.int .u32 x7] 26)).ownsRow base 26 1 u7 xs.length (xs.map (Value.int .u32)) := HPA.out.own
                have HSZ : Hid (base ≤ (w22.alloc (.cells #[.int .u32 x7] 26)).heap.size) := HPA.out.ls
                have HZ : Hid (∀ (gg cap1 : Nat) (w9 : World), w9.ownsRow base 26 1 (.slice (some ⟨gg, 0, none⟩) (xs.length + 1) cap1) (xs.length + 1) (xs.map (Value.int .u32) ++ [.int .u32 x7]) → (w22.alloc (.cells #[.int .u32 x7] 26)).grownBy w9 u7.ownBlock → ∃ xs', xs'.length = i + 1 ∧ (∀ x ∈ xs', 0 ≤ x ∧ x ≤ 4294967295) ∧ DW w w9 base B a zs cap (.slice (some ⟨gg, 0, none⟩) (xs.length + 1) cap1) xs') := fun gg cap1 w9 g1 g2 => ⟨xs ++ [x7], by rw [List.length_append, HXL.out]; rfl, fun x hx => by rcases List.mem_append.1 hx with h | h; exact HXR.out x h; rw [List.mem_singleton.1 h]; exact HZR.out, HPA.out.low (Below.grown (Below.refl _ _) g2 HSZ.out (fun g e => (HPA.out.own.lt g e).1)) (OwnU.snoc g1) (by simp)⟩
                clear hal HD HPA
                go_wp2_with (at_builtin; (refine wpList_append_lies _ rfl (.tmp 91) (.tmp 93) 25 rfl base 26 iS (.int .u32 0) 1 4 Try.underlying25 HIN.out.1 HIN.out.2.1 HIN.out.2.2.1 HIN.out.2.2.2 rfl (by omega) u7 xs.length (xs.map (Value.int .u32)) rfl hownA _ 1 1 [.int .u32 x7] rfl rfl (news_u _ _ _ (by simp)) (one_u _) (by omega) (by unfold maxLen; omega) (by omega) HSZ.out _ rfl ?_; intro gg cap1 w9 hown1 hgrow hat hlt1; have HYY : Hid _ := HZ.out gg cap1 w9 hown1 hgrow; clear hown1 hgrow hat hlt1))
                go_roundw
                case rel => exact ⟨i + 1, by omega, by go_num, HYY⟩
                case measure => simp [intOf]; omega
end Iy
end Go.Proofs.Ytanffdedignegaa
