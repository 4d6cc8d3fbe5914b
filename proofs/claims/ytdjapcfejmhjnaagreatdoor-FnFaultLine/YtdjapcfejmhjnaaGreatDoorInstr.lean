/-
  Whether an instruction is right: what the specification's and the program's own InstrOk return, one truth value, at every instruction; and how an instruction that comes in is read. Condition: the program's table of forms lies in memory as the program's text lays it.
-/
import Derived.Test.YtdjapcfejmhjnaaGreatDoorOk
import Derived.Lib.SmallJoins
import Derived.ProofKit
import Derived.OpenShut
namespace Go.Proofs.YtdjapcfejmhjnaaGreatDoor
open Go.ChangeShapes Go.WideShapes Go.ChangeAt Go.RowKit Go.Joins
set_option linter.unusedVariables false
set_option maxRecDepth 20000

/-! ### An instruction is right: what the text reckons -/
theorem bit_eq : ∀ n : Fin 16, ∀ b : Fin 4, (bits .and .i64 (n.val : Int) ((2 ^ b.val : Nat) : Int) == 0) = ((n.val : Int) / ((2 ^ b.val : Nat) : Int) % 2 == 0) := by decide +kernel
theorem form_lt : ∀ k : Fin 33, 0 ≤ forms.getD k.val 0 ∧ forms.getD k.val 0 < 16 := by decide +kernel
theorem fld_kp (f x lo hi : Int) (b : Fin 4) (bit : Int) (hb : bit = ((2 ^ b.val : Nat) : Int)) (h0 : 0 ≤ f) (h1 : f < 16) (hl : lo ≤ 0) (hh : 0 ≤ hi) :
    fld f bit x lo hi = ((decide (lo ≤ x) && decide (x ≤ hi)) && (x == kp f bit x)) := by
  subst hb
  obtain ⟨n, rfl⟩ := Int.eq_ofNat_of_zero_le h0
  have e := bit_eq ⟨n, by omega⟩ b
  simp only at e
  unfold fld kp
  rw [e]
  generalize ((n : Int) / ((2 ^ b.val : Nat) : Int) % 2 == 0) = q
  cases q
  · simp
  · by_cases hx : x = 0
    · subst hx; simp [hl, hh]
    · simp [hx]
def instrOk (op a b c m : Int) : Bool := (decide (0 ≤ op) && decide (op < 33)) && (fld (form op) 1 a 0 15 && (fld (form op) 2 b 0 15 && (fld (form op) 4 c 0 15 && fld (form op) 8 m (-8192) 8191)))
theorem instrOk_yes (k : Nat) (a b c m f : Int) (hk : k < 33) (hf : forms.getD k 0 = f) :
    instrOk k a b c m = (fld f 1 a 0 15 && (fld f 2 b 0 15 && (fld f 4 c 0 15 && fld f 8 m (-8192) 8191))) := by
  have e : form (k : Int) = f := by unfold form; rw [Int.toNat_natCast]; exact hf
  unfold instrOk
  rw [e, decide_eq_true (by omega), decide_eq_true (by omega)]
  rfl
theorem instrOk_no (op a b c m : Int) (h : ¬ (0 ≤ op ∧ op < 33)) : instrOk op a b c m = false := by
  unfold instrOk
  rw [← Bool.decide_and, decide_eq_false h]
  rfl
theorem instrOk_kp (k : Nat) (a b c m f : Int) (hk : k < 33) (hf : forms.getD k 0 = f) (hr : 0 ≤ a ∧ a ≤ 15 ∧ 0 ≤ b ∧ b ≤ 15 ∧ 0 ≤ c ∧ c ≤ 15 ∧ -8192 ≤ m ∧ m ≤ 8191) :
    instrOk k a b c m = ((a == kp f 1 a) && ((b == kp f 2 b) && ((c == kp f 4 c) && (m == kp f 8 m)))) := by
  obtain ⟨h1, h2, h3, h4, h5, h6, h7, h8⟩ := hr
  have hb := form_lt ⟨k, hk⟩
  simp only [hf] at hb
  rw [instrOk_yes k a b c m f hk hf, fld_kp f a 0 15 0 1 rfl hb.1 hb.2 (by omega) (by omega), fld_kp f b 0 15 1 2 rfl hb.1 hb.2 (by omega) (by omega), fld_kp f c 0 15 2 4 rfl hb.1 hb.2 (by omega) (by omega), fld_kp f m (-8192) 8191 3 8 rfl hb.1 hb.2 (by omega) (by omega)]
  simp [h1, h2, h3, h4, h5, h6, h7, h8]
theorem instrOk_far (k : Nat) (a b c m f : Int) (hk : k < 33) (hf : forms.getD k 0 = f) (hr : ¬ (0 ≤ a ∧ a ≤ 15 ∧ 0 ≤ b ∧ b ≤ 15 ∧ 0 ≤ c ∧ c ≤ 15 ∧ -8192 ≤ m ∧ m ≤ 8191)) :
    instrOk k a b c m = false := by
  have hb := form_lt ⟨k, hk⟩
  simp only [hf] at hb
  rw [instrOk_yes k a b c m f hk hf, fld_kp f a 0 15 0 1 rfl hb.1 hb.2 (by omega) (by omega), fld_kp f b 0 15 1 2 rfl hb.1 hb.2 (by omega) (by omega), fld_kp f c 0 15 2 4 rfl hb.1 hb.2 (by omega) (by omega), fld_kp f m (-8192) 8191 3 8 rfl hb.1 hb.2 (by omega) (by omega)]
  rw [Bool.eq_false_iff]
  intro e
  simp only [Bool.and_eq_true, decide_eq_true_eq] at e
  exact hr ⟨e.1.1.1, e.1.1.2, e.2.1.1.1, e.2.1.1.2, e.2.2.1.1.1, e.2.2.1.1.2, e.2.2.2.1.1, e.2.2.2.1.2⟩
set_option maxHeartbeats 400000 in
theorem spec_ok (op a b c m : Int) (w : World) : Calls Tryz.prog 37 #[ins op a b c m] w fun e w' => e = .returned (.bool (instrOk op a b c m)) ∧ Below w.heap.size w w' := by
  by_cases h : 0 ≤ op ∧ op < 33
  · obtain ⟨k, rfl⟩ := Int.eq_ofNat_of_zero_le h.1
    have hk : k < 33 := by omega
    obtain ⟨f, hf⟩ : ∃ f, forms.getD k 0 = f := ⟨_, rfl⟩
    have HF : Hid _ := hf
    have hb := form_lt ⟨k, hk⟩
    simp only [hf] at hb
    obtain ⟨f0, f1⟩ := hb
    have HE : Hid _ := instrOk_yes k a b c m f hk hf
    obtain ⟨q1, Q1⟩ : ∃ q, Hid (fld f 1 a 0 15 = q) := ⟨_, rfl⟩
    obtain ⟨q2, Q2⟩ : ∃ q, Hid (fld f 2 b 0 15 = q) := ⟨_, rfl⟩
    obtain ⟨q3, Q3⟩ : ∃ q, Hid (fld f 4 c 0 15 = q) := ⟨_, rfl⟩
    obtain ⟨q4, Q4⟩ : ∃ q, Hid (fld f 8 m (-8192) 8191 = q) := ⟨_, rfl⟩
    rw [HE.out, Q1.out, Q2.out, Q3.out, Q4.out]
    clear h hf HE
    go_enter Tryz.func37, Tryz.ntmps37
    go_wp2_with fail
    refine (spec_form k f _ hk HF.out).mono ?_
    rintro e w1 ⟨rfl, hb⟩
    have hb0 := ((Below.refl _ w).alloc (Nat.le_refl _) (row k a b c m)).trans (hb.mono (by simp))
    have hr : ∀ i v, (#[Value.int .i64 k, .int .i64 a, .int .i64 b, .int .i64 c, .int .i64 m] : Array Value)[i]? = some v → w1.cell? ⟨w.heap.size, i, none⟩ = some v := fun i v h =>
      (hb.cell (p := ⟨w.heap.size, i, none⟩) (by simp)).trans (new_cell w _ 46 i v h)
    have c1 := hr 1 _ rfl
    have c2 := hr 2 _ rfl
    have c3 := hr 3 _ rfl
    have c4 := hr 4 _ rfl
    clear hr hb
    go_wp2_with fail
    refine (field f 1 a 0 15 q1 _ f0 f1 (by omega) Q1.out).mono ?_
    rintro e w2 ⟨rfl, rfl⟩
    cases q1
    · go_wp2
      go_ret
      exact ⟨rfl, hb0⟩
    go_wp2_with fail
    refine (field f 2 b 0 15 q2 _ f0 f1 (by omega) Q2.out).mono ?_
    rintro e w2 ⟨rfl, rfl⟩
    cases q2
    · go_wp2
      go_ret
      exact ⟨rfl, hb0⟩
    go_wp2_with fail
    refine (field f 4 c 0 15 q3 _ f0 f1 (by omega) Q3.out).mono ?_
    rintro e w2 ⟨rfl, rfl⟩
    cases q3
    · go_wp2
      go_ret
      exact ⟨rfl, hb0⟩
    go_wp2_with fail
    refine (field f 8 m (-8192) 8191 q4 _ f0 f1 (by omega) Q4.out).mono ?_
    rintro e w2 ⟨rfl, rfl⟩
    go_wp2
    go_ret
    exact ⟨rfl, hb0⟩
  · have HN : Hid _ := instrOk_no op a b c m h
    have H2 : Hid (¬ (0 ≤ op ∧ op ≤ 32)) := fun g => h ⟨g.1, by omega⟩
    rw [HN.out]
    clear h HN
    go_enter Tryz.func37, Tryz.ntmps37
    go_wp2_with fail
    refine (spec_form_no op _ H2.out).mono ?_
    rintro e w1 ⟨rfl, rfl⟩
    go_wp2
    go_ret
    exact ⟨rfl, (Below.refl _ w).alloc (Nat.le_refl _) _⟩
theorem impl_ok (op a b c m : Int) (w : World) (ht : Tab w) : Calls Tryz.prog 65 #[ins op a b c m] w fun e w' => e = .returned (.bool (instrOk op a b c m)) ∧ Below w.heap.size w w' := by
  by_cases h : 0 ≤ op ∧ op < 33
  · obtain ⟨k, rfl⟩ := Int.eq_ofNat_of_zero_le h.1
    have hk : k < 33 := by omega
    obtain ⟨f, hf⟩ : ∃ f, forms.getD k 0 = f := ⟨_, rfl⟩
    have hc := ht k hk
    rw [hf] at hc
    by_cases hr : 0 ≤ a ∧ a ≤ 15 ∧ 0 ≤ b ∧ b ≤ 15 ∧ 0 ≤ c ∧ c ≤ 15 ∧ -8192 ≤ m ∧ m ≤ 8191
    · rw [instrOk_kp k a b c m f hk hf hr]
      have HR : Hid (∀ w, Calls Tryz.prog 89 #[ins k a b c m] w fun e w' => e = .returned (.bool true) ∧ w' = w.alloc (row k a b c m)) :=
        fun w => range_yes k a b c m w hr.1 hr.2.1 hr.2.2.1 hr.2.2.2.1 hr.2.2.2.2.1 hr.2.2.2.2.2.1 hr.2.2.2.2.2.2.1 hr.2.2.2.2.2.2.2
      have HK : Hid (∀ w, Calls Tryz.prog 90 #[ins k a b c m, .int .i64 f] w fun e w' => e = .returned (ins k (kp f 1 a) (kp f 2 b) (kp f 4 c) (kp f 8 m)) ∧ w' = (w.alloc (row k (kp f 1 a) (kp f 2 b) (kp f 4 c) (kp f 8 m))).alloc (row k (kp f 1 a) (kp f 2 b) (kp f 4 c) (kp f 8 m))) :=
        fun w => kept k a b c m f w
      generalize kp f 1 a = A at HK ⊢
      generalize kp f 2 b = B at HK ⊢
      generalize kp f 4 c = C at HK ⊢
      generalize kp f 8 m = M at HK ⊢
      cases hA : (a == A)
      · exact impl_ok_0 k a b c m f A B C M w hk hc HR HK hA
      · have gA : a = A := by simpa using hA
        cases hB : (b == B)
        · exact impl_ok_1 k a b c m f A B C M w hk hc HR HK gA hB
        · have gB : b = B := by simpa using hB
          cases hC : (c == C)
          · exact impl_ok_2 k a b c m f A B C M w hk hc HR HK gA gB hC
          · have gC : c = C := by simpa using hC
            cases hM : (m == M)
            · exact impl_ok_3 k a b c m f A B C M w hk hc HR HK gA gB gC hM
            · have gM : m = M := by simpa using hM
              exact impl_ok_4 k a b c m f A B C M w hk hc HR HK gA gB gC gM
    · rw [instrOk_far k a b c m f hk hf hr]
      exact impl_ok_far k a b c m f w hk hc hr
  · rw [instrOk_no op a b c m h]
    exact impl_ok_none op a b c m w h

/-! ### An instruction that comes in -/
theorem array5 {α : Type} {cs : Array α} (h : cs.size = 5) : ∃ c0 c1 c2 c3 c4, cs = #[c0, c1, c2, c3, c4] := by
  obtain ⟨l⟩ := cs
  match l, h with
  | [c0, c1, c2, c3, c4], _ => exact ⟨c0, c1, c2, c3, c4, rfl⟩
theorem list5 {α : Type} {cs : List α} (h : cs.length = 5) : ∃ c0 c1 c2 c3 c4, cs = [c0, c1, c2, c3, c4] := by
  match cs, h with
  | [c0, c1, c2, c3, c4], _ => exact ⟨c0, c1, c2, c3, c4, rfl⟩
abbrev insD {H : Type} (op a b c m : Int) : DataW H := .agg [.lit (.int .i64 op), .lit (.int .i64 a), .lit (.int .i64 b), .lit (.int .i64 c), .lit (.int .i64 m)]
theorem c3 : Tryz.prog.cellsOf 3 = 1 := by kernel_rfl
end Go.Proofs.YtdjapcfejmhjnaaGreatDoor
