/-
  Whether an instruction is right: what the specification's and the program's own InstrOk return, one truth value, at every instruction; and how an instruction that comes in is read. Condition: the program's table of forms lies in memory as the program's text lays it.
  The instruction of a word: what the specification's and the program's own Decode return, one instruction and one truth value, at every word. Condition: the program's table of forms lies in memory as the program's text lays it.
-/
import Derived.Test.YtjlhkjiccibgdaaGreatDoorOk
import Derived.Lib.SmallJoins
import Derived.ProofKit
import Derived.OpenShut
namespace Go.Proofs.YtjlhkjiccibgdaaGreatDoor.Is
open Go.ChangeShapes Go.WideShapes Go.ChangeAt Go.RowKit Go.Joins
set_option linter.unusedVariables false
set_option maxRecDepth 20000

/-! ### An instruction is right: what the text reckons -/
theorem bit_eq : ∀ n : Fin 16, ∀ b : Fin 4, (bits .and .i64 (n.val : Int) ((2 ^ b.val : Nat) : Int) == 0) = ((n.val : Int) / ((2 ^ b.val : Nat) : Int) % 2 == 0) := by decide +kernel
theorem form_lt : ∀ k : Fin 33, 0 ≤ forms.getD k.val 0 ∧ forms.getD k.val 0 < 16 := by decide +kernel
theorem fld_kp (f x lo hi : Int) (b : Fin 4) (bit : Int) (hb : bit = ((2 ^ b.val : Nat) : Int)) (h0 : 0 ≤ f) (h1 : f < 16) (hl : lo ≤ 0) (hh : 0 ≤ hi) :
    fld f bit x lo hi = ((decide (lo ≤ x) && decide (x ≤ hi)) && (x == kp f bit x)) := by
  subst hb
  obtain ⟨n, rfl⟩ := Int.eq_ofNat_of_zero_le h0
  have e := bit_eq ⟨n, by omega⟩ b
  simp only at e
  unfold fld kp
  rw [e]
  generalize ((n : Int) / ((2 ^ b.val : Nat) : Int) % 2 == 0) = q
  cases q
  · simp
  · by_cases hx : x = 0
    · subst hx; simp [hl, hh]
    · simp [hx]
def instrOk (op a b c m : Int) : Bool := (decide (0 ≤ op) && decide (op < 33)) && (fld (form op) 1 a 0 15 && (fld (form op) 2 b 0 15 && (fld (form op) 4 c 0 15 && fld (form op) 8 m (-8192) 8191)))
theorem instrOk_yes (k : Nat) (a b c m f : Int) (hk : k < 33) (hf : forms.getD k 0 = f) :
    instrOk k a b c m = (fld f 1 a 0 15 && (fld f 2 b 0 15 && (fld f 4 c 0 15 && fld f 8 m (-8192) 8191))) := by
  have e : form (k : Int) = f := by unfold form; rw [Int.toNat_natCast]; exact hf
  unfold instrOk
  rw [e, decide_eq_true (by omega), decide_eq_true (by omega)]
  rfl
theorem instrOk_no (op a b c m : Int) (h : ¬ (0 ≤ op ∧ op < 33)) : instrOk op a b c m = false := by
  unfold instrOk
  rw [← Bool.decide_and, decide_eq_false h]
  rfl
theorem instrOk_kp (k : Nat) (a b c m f : Int) (hk : k < 33) (hf : forms.getD k 0 = f) (hr : 0 ≤ a ∧ a ≤ 15 ∧ 0 ≤ b ∧ b ≤ 15 ∧ 0 ≤ c ∧ c ≤ 15 ∧ -8192 ≤ m ∧ m ≤ 8191) :
    instrOk k a b c m = ((a == kp f 1 a) && ((b == kp f 2 b) && ((c == kp f 4 c) && (m == kp f 8 m)))) := by
  obtain ⟨h1, h2, h3, h4, h5, h6, h7, h8⟩ := hr
  have hb := form_lt ⟨k, hk⟩
  simp only [hf] at hb
  rw [instrOk_yes k a b c m f hk hf, fld_kp f a 0 15 0 1 rfl hb.1 hb.2 (by omega) (by omega), fld_kp f b 0 15 1 2 rfl hb.1 hb.2 (by omega) (by omega), fld_kp f c 0 15 2 4 rfl hb.1 hb.2 (by omega) (by omega), fld_kp f m (-8192) 8191 3 8 rfl hb.1 hb.2 (by omega) (by omega)]
  simp [h1, h2, h3, h4, h5, h6, h7, h8]
theorem instrOk_far (k : Nat) (a b c m f : Int) (hk : k < 33) (hf : forms.getD k 0 = f) (hr : ¬ (0 ≤ a ∧ a ≤ 15 ∧ 0 ≤ b ∧ b ≤ 15 ∧ 0 ≤ c ∧ c ≤ 15 ∧ -8192 ≤ m ∧ m ≤ 8191)) :
    instrOk k a b c m = false := by
  have hb := form_lt ⟨k, hk⟩
  simp only [hf] at hb
  rw [instrOk_yes k a b c m f hk hf, fld_kp f a 0 15 0 1 rfl hb.1 hb.2 (by omega) (by omega), fld_kp f b 0 15 1 2 rfl hb.1 hb.2 (by omega) (by omega), fld_kp f c 0 15 2 4 rfl hb.1 hb.2 (by omega) (by omega), fld_kp f m (-8192) 8191 3 8 rfl hb.1 hb.2 (by omega) (by omega)]
  rw [Bool.eq_false_iff]
  intro e
  simp only [Bool.and_eq_true, decide_eq_true_eq] at e
  exact hr ⟨e.1.1.1, e.1.1.2, e.2.1.1.1, e.2.1.1.2, e.2.2.1.1.1, e.2.2.1.1.2, e.2.2.2.1.1, e.2.2.2.1.2⟩
set_option maxHeartbeats 400000 in
theorem spec_ok (op a b c m : Int) (w : World) : Calls Tryz.prog 63 #[ins op a b c m] w fun e w' => e = .returned (.bool (instrOk op a b c m)) ∧ Below w.heap.size w w' := by
  by_cases h : 0 ≤ op ∧ op < 33
  · obtain ⟨k, rfl⟩ := Int.eq_ofNat_of_zero_le h.1
    have hk : k < 33 := by omega
    obtain ⟨f, hf⟩ : ∃ f, forms.getD k 0 = f := ⟨_, rfl⟩
    have HF : Hid _ := hf
    have hb := form_lt ⟨k, hk⟩
    simp only [hf] at hb
    obtain ⟨f0, f1⟩ := hb
    have HE : Hid _ := instrOk_yes k a b c m f hk hf
    obtain ⟨q1, Q1⟩ : ∃ q, Hid (fld f 1 a 0 15 = q) := ⟨_, rfl⟩
    obtain ⟨q2, Q2⟩ : ∃ q, Hid (fld f 2 b 0 15 = q) := ⟨_, rfl⟩
    obtain ⟨q3, Q3⟩ : ∃ q, Hid (fld f 4 c 0 15 = q) := ⟨_, rfl⟩
    obtain ⟨q4, Q4⟩ : ∃ q, Hid (fld f 8 m (-8192) 8191 = q) := ⟨_, rfl⟩
    rw [HE.out, Q1.out, Q2.out, Q3.out, Q4.out]
    clear h hf HE
    go_enter Tryz.func63, Tryz.ntmps63
    go_wp2_with fail
    refine (spec_form k f _ hk HF.out).mono ?_
    rintro e w1 ⟨rfl, hb⟩
    have hb0 := ((Below.refl _ w).alloc (Nat.le_refl _) (row k a b c m)).trans (hb.mono (by simp))
    have hr : ∀ i v, (#[Value.int .i64 k, .int .i64 a, .int .i64 b, .int .i64 c, .int .i64 m] : Array Value)[i]? = some v → w1.cell? ⟨w.heap.size, i, none⟩ = some v := fun i v h =>
      (hb.cell (p := ⟨w.heap.size, i, none⟩) (by simp)).trans (new_cell w _ 66 i v h)
    have c1 := hr 1 _ rfl
    have c2 := hr 2 _ rfl
    have c3 := hr 3 _ rfl
    have c4 := hr 4 _ rfl
    clear hr hb
    go_wp2_with fail
    refine (field f 1 a 0 15 q1 _ f0 f1 (by omega) Q1.out).mono ?_
    rintro e w2 ⟨rfl, rfl⟩
    cases q1
    · go_wp2
      go_ret
      exact ⟨rfl, hb0⟩
    go_wp2_with fail
    refine (field f 2 b 0 15 q2 _ f0 f1 (by omega) Q2.out).mono ?_
    rintro e w2 ⟨rfl, rfl⟩
    cases q2
    · go_wp2
      go_ret
      exact ⟨rfl, hb0⟩
    go_wp2_with fail
    refine (field f 4 c 0 15 q3 _ f0 f1 (by omega) Q3.out).mono ?_
    rintro e w2 ⟨rfl, rfl⟩
    cases q3
    · go_wp2
      go_ret
      exact ⟨rfl, hb0⟩
    go_wp2_with fail
    refine (field f 8 m (-8192) 8191 q4 _ f0 f1 (by omega) Q4.out).mono ?_
    rintro e w2 ⟨rfl, rfl⟩
    go_wp2
    go_ret
    exact ⟨rfl, hb0⟩
  · have HN : Hid _ := instrOk_no op a b c m h
    have H2 : Hid (¬ (0 ≤ op ∧ op ≤ 32)) := fun g => h ⟨g.1, by omega⟩
    rw [HN.out]
    clear h HN
    go_enter Tryz.func63, Tryz.ntmps63
    go_wp2_with fail
    refine (spec_form_no op _ H2.out).mono ?_
    rintro e w1 ⟨rfl, rfl⟩
    go_wp2
    go_ret
    exact ⟨rfl, (Below.refl _ w).alloc (Nat.le_refl _) _⟩
theorem impl_ok (op a b c m : Int) (w : World) (ht : Tab w) : Calls Tryz.prog 75 #[ins op a b c m] w fun e w' => e = .returned (.bool (instrOk op a b c m)) ∧ Below w.heap.size w w' := by
  by_cases h : 0 ≤ op ∧ op < 33
  · obtain ⟨k, rfl⟩ := Int.eq_ofNat_of_zero_le h.1
    have hk : k < 33 := by omega
    obtain ⟨f, hf⟩ : ∃ f, forms.getD k 0 = f := ⟨_, rfl⟩
    have hc := ht k hk
    rw [hf] at hc
    by_cases hr : 0 ≤ a ∧ a ≤ 15 ∧ 0 ≤ b ∧ b ≤ 15 ∧ 0 ≤ c ∧ c ≤ 15 ∧ -8192 ≤ m ∧ m ≤ 8191
    · rw [instrOk_kp k a b c m f hk hf hr]
      have HR : Hid (∀ w, Calls Tryz.prog 91 #[ins k a b c m] w fun e w' => e = .returned (.bool true) ∧ w' = w.alloc (row k a b c m)) :=
        fun w => range_yes k a b c m w hr.1 hr.2.1 hr.2.2.1 hr.2.2.2.1 hr.2.2.2.2.1 hr.2.2.2.2.2.1 hr.2.2.2.2.2.2.1 hr.2.2.2.2.2.2.2
      have HK : Hid (∀ w, Calls Tryz.prog 92 #[ins k a b c m, .int .i64 f] w fun e w' => e = .returned (ins k (kp f 1 a) (kp f 2 b) (kp f 4 c) (kp f 8 m)) ∧ w' = (w.alloc (row k (kp f 1 a) (kp f 2 b) (kp f 4 c) (kp f 8 m))).alloc (row k (kp f 1 a) (kp f 2 b) (kp f 4 c) (kp f 8 m))) :=
        fun w => kept k a b c m f w
      generalize kp f 1 a = A at HK ⊢
      generalize kp f 2 b = B at HK ⊢
      generalize kp f 4 c = C at HK ⊢
      generalize kp f 8 m = M at HK ⊢
      cases hA : (a == A)
      · exact impl_ok_0 k a b c m f A B C M w hk hc HR HK hA
      · have gA : a = A := by simpa using hA
        cases hB : (b == B)
        · exact impl_ok_1 k a b c m f A B C M w hk hc HR HK gA hB
        · have gB : b = B := by simpa using hB
          cases hC : (c == C)
          · exact impl_ok_2 k a b c m f A B C M w hk hc HR HK gA gB hC
          · have gC : c = C := by simpa using hC
            cases hM : (m == M)
            · exact impl_ok_3 k a b c m f A B C M w hk hc HR HK gA gB gC hM
            · have gM : m = M := by simpa using hM
              exact impl_ok_4 k a b c m f A B C M w hk hc HR HK gA gB gC gM
    · rw [instrOk_far k a b c m f hk hf hr]
      exact impl_ok_far k a b c m f w hk hc hr
  · rw [instrOk_no op a b c m h]
    exact impl_ok_none op a b c m w h

/-! ### An instruction that comes in -/
end Go.Proofs.YtjlhkjiccibgdaaGreatDoor.Is
namespace Go.Proofs.YtjlhkjiccibgdaaGreatDoor.Is
open Go.ChangeShapes Go.WideShapes Go.ChangeAt Go.RowKit
set_option linter.unusedVariables false
set_option maxRecDepth 20000

def sx (y : Int) : Int := if 8192 ≤ y then y - 16384 else y
theorem sext_any (x : Int) (w : World) (h0 : 0 ≤ x) (h1 : x ≤ 4294967295) : Calls Tryz.prog 74 #[.int .u32 x, .int .i64 14] w fun e w' => e = .returned (.int .u32 (sx (x % 16384) % 4294967296)) ∧ w' = w := by
  have HE : Hid (wrap32 (x * 262144 % 4294967296) / 262144 % 4294967296 = sx (x % 16384) % 4294967296) := by
    show _ = _
    unfold wrap32 sx
    split <;> omega
  go_enter Tryz.func74, Tryz.ntmps74
  go_wp2
  go_ret
  exact ⟨ret_int HE.out, rfl⟩
theorem and_4 (z : Int) (h0 : 0 ≤ z) (h1 : z ≤ 4294967295) : wrap64 (bits .and .u32 z 15) = z % 16 := by
  have h31 : (BitVec.ofInt 32 15).toNat = 2 ^ 4 - 1 := by decide
  have key : (BitVec.ofInt 32 z &&& BitVec.ofInt 32 15).toNat = (z % ((2 ^ 32 : Nat) : Int)).toNat % 2 ^ 4 := by
    rw [BitVec.toNat_and, BitVec.toNat_ofInt, h31, Nat.and_two_pow_sub_one_eq_mod]
  have e : bits .and .u32 z 15 = z % 16 := by
    show IntKind.u32.wrap ((BitVec.ofInt 32 z &&& BitVec.ofInt 32 15).toNat : Nat) = z % 16
    rw [key, IntKind.wrap_u32]
    omega
  rw [e]
  unfold wrap64
  omega
theorem sx_back (y : Int) (h0 : 0 ≤ y) (h1 : y < 16384) : wrap64 (wrap32 (sx y % 4294967296)) = sx y := by
  unfold wrap64 wrap32 sx
  split <;> omega
set_option maxHeartbeats 1000000 in
theorem spec_dec_hi (x : Int) (q : Bool) (w : World) (h0 : 0 ≤ x) (h1 : x ≤ 4294967295) (hm : 8192 ≤ x % 16384) (HQ : Hid (instrOk (x / 67108864) (x / 4194304 % 16) (x / 262144 % 16) (x / 16384 % 16) (x % 16384 - 16384) = q)) :
    Calls Tryz.prog 39 #[.int .u32 x] w fun e w' => e = .returned (.tuple #[if q then ins (x / 67108864) (x / 4194304 % 16) (x / 262144 % 16) (x / 16384 % 16) (x % 16384 - 16384) else ins 0 0 0 0 0, .bool q]) ∧ Below w.heap.size w w' := by
  go_enter Tryz.func39, Tryz.ntmps39
  go_wp2_with fail
  refine (spec_ok _ _ _ _ _ _).mono ?_
  rintro e w1 ⟨rfl, hb⟩
  rw [HQ.out]
  have hb0 := (((Below.refl _ w).alloc (Nat.le_refl _) (row 0 0 0 0 0)).alloc (by simp) (row (x / 67108864) (x / 4194304 % 16) (x / 262144 % 16) (x / 16384 % 16) (x % 16384 - 16384))).trans (hb.mono (by simp; omega))
  have hz : ∀ i v, (#[Value.int .i64 0, .int .i64 0, .int .i64 0, .int .i64 0, .int .i64 0] : Array Value)[i]? = some v → w1.cell? ⟨w.heap.size, i, none⟩ = some v := fun i v h =>
    (hb.cell (p := ⟨w.heap.size, i, none⟩) (by simp; omega)).trans (cell_alloc (new_cell w _ 66 i v h))
  have hf : ∀ i, w1.frozen? ⟨w.heap.size, i, none⟩ = false := fun i =>
    (hb.frozen (p := ⟨w.heap.size, i, none⟩) (by simp; omega)).trans (by simp)
  have hr : ∀ i v, (#[Value.int .i64 (x / 67108864), .int .i64 (x / 4194304 % 16), .int .i64 (x / 262144 % 16), .int .i64 (x / 16384 % 16), .int .i64 (x % 16384 - 16384)] : Array Value)[i]? = some v → w1.cell? ⟨w.heap.size + 1, i, none⟩ = some v := fun i v h =>
    (hb.cell (p := ⟨w.heap.size + 1, i, none⟩) (by simp)).trans (by have := new_cell (w.alloc (row 0 0 0 0 0)) _ 66 i v h; simpa using this)
  have z0 := hz 0 (.int .i64 0) rfl
  have z1 := hz 1 (.int .i64 0) rfl
  have z2 := hz 2 (.int .i64 0) rfl
  have z3 := hz 3 (.int .i64 0) rfl
  have z4 := hz 4 (.int .i64 0) rfl
  have r0 := hr 0 (.int .i64 (x / 67108864)) rfl
  have r1 := hr 1 (.int .i64 (x / 4194304 % 16)) rfl
  have r2 := hr 2 (.int .i64 (x / 262144 % 16)) rfl
  have r3 := hr 3 (.int .i64 (x / 16384 % 16)) rfl
  have r4 := hr 4 (.int .i64 (x % 16384 - 16384)) rfl
  clear hr hz hb
  cases q
  · go_wp2
    exact bodyPost_ret (v := .tuple #[ins 0 0 0 0 0, .bool false]) (by simp [results, Tryz.results39, go_sem, z0, z1, z2, z3, z4]) rfl ⟨rfl, ((((hb0.setCell (Nat.le_refl _) _).setCell (Nat.le_refl _) _).setCell (Nat.le_refl _) _).setCell (Nat.le_refl _) _).setCell (Nat.le_refl _) _⟩
  · go_wp2
    exact bodyPost_ret (v := .tuple #[ins (x / 67108864) (x / 4194304 % 16) (x / 262144 % 16) (x / 16384 % 16) (x % 16384 - 16384), .bool true]) (by simp [results, Tryz.results39, go_sem, z0, z1, z2, z3, z4]) rfl ⟨rfl, ((((hb0.setCell (Nat.le_refl _) _).setCell (Nat.le_refl _) _).setCell (Nat.le_refl _) _).setCell (Nat.le_refl _) _).setCell (Nat.le_refl _) _⟩
set_option maxHeartbeats 1000000 in
theorem spec_dec_lo (x : Int) (q : Bool) (w : World) (h0 : 0 ≤ x) (h1 : x ≤ 4294967295) (hm : x % 16384 < 8192) (HQ : Hid (instrOk (x / 67108864) (x / 4194304 % 16) (x / 262144 % 16) (x / 16384 % 16) (x % 16384) = q)) :
    Calls Tryz.prog 39 #[.int .u32 x] w fun e w' => e = .returned (.tuple #[if q then ins (x / 67108864) (x / 4194304 % 16) (x / 262144 % 16) (x / 16384 % 16) (x % 16384) else ins 0 0 0 0 0, .bool q]) ∧ Below w.heap.size w w' := by
  go_enter Tryz.func39, Tryz.ntmps39
  go_wp2_with fail
  refine (spec_ok _ _ _ _ _ _).mono ?_
  rintro e w1 ⟨rfl, hb⟩
  rw [HQ.out]
  have hb0 := (((Below.refl _ w).alloc (Nat.le_refl _) (row 0 0 0 0 0)).alloc (by simp) (row (x / 67108864) (x / 4194304 % 16) (x / 262144 % 16) (x / 16384 % 16) (x % 16384))).trans (hb.mono (by simp; omega))
  have hz : ∀ i v, (#[Value.int .i64 0, .int .i64 0, .int .i64 0, .int .i64 0, .int .i64 0] : Array Value)[i]? = some v → w1.cell? ⟨w.heap.size, i, none⟩ = some v := fun i v h =>
    (hb.cell (p := ⟨w.heap.size, i, none⟩) (by simp; omega)).trans (cell_alloc (new_cell w _ 66 i v h))
  have hf : ∀ i, w1.frozen? ⟨w.heap.size, i, none⟩ = false := fun i =>
    (hb.frozen (p := ⟨w.heap.size, i, none⟩) (by simp; omega)).trans (by simp)
  have hr : ∀ i v, (#[Value.int .i64 (x / 67108864), .int .i64 (x / 4194304 % 16), .int .i64 (x / 262144 % 16), .int .i64 (x / 16384 % 16), .int .i64 (x % 16384)] : Array Value)[i]? = some v → w1.cell? ⟨w.heap.size + 1, i, none⟩ = some v := fun i v h =>
    (hb.cell (p := ⟨w.heap.size + 1, i, none⟩) (by simp)).trans (by have := new_cell (w.alloc (row 0 0 0 0 0)) _ 66 i v h; simpa using this)
  have z0 := hz 0 (.int .i64 0) rfl
  have z1 := hz 1 (.int .i64 0) rfl
  have z2 := hz 2 (.int .i64 0) rfl
  have z3 := hz 3 (.int .i64 0) rfl
  have z4 := hz 4 (.int .i64 0) rfl
  have r0 := hr 0 (.int .i64 (x / 67108864)) rfl
  have r1 := hr 1 (.int .i64 (x / 4194304 % 16)) rfl
  have r2 := hr 2 (.int .i64 (x / 262144 % 16)) rfl
  have r3 := hr 3 (.int .i64 (x / 16384 % 16)) rfl
  have r4 := hr 4 (.int .i64 (x % 16384)) rfl
  clear hr hz hb
  cases q
  · go_wp2
    exact bodyPost_ret (v := .tuple #[ins 0 0 0 0 0, .bool false]) (by simp [results, Tryz.results39, go_sem, z0, z1, z2, z3, z4]) rfl ⟨rfl, ((((hb0.setCell (Nat.le_refl _) _).setCell (Nat.le_refl _) _).setCell (Nat.le_refl _) _).setCell (Nat.le_refl _) _).setCell (Nat.le_refl _) _⟩
  · go_wp2
    exact bodyPost_ret (v := .tuple #[ins (x / 67108864) (x / 4194304 % 16) (x / 262144 % 16) (x / 16384 % 16) (x % 16384), .bool true]) (by simp [results, Tryz.results39, go_sem, z0, z1, z2, z3, z4]) rfl ⟨rfl, ((((hb0.setCell (Nat.le_refl _) _).setCell (Nat.le_refl _) _).setCell (Nat.le_refl _) _).setCell (Nat.le_refl _) _).setCell (Nat.le_refl _) _⟩
theorem spec_dec (x : Int) (q : Bool) (w : World) (h0 : 0 ≤ x) (h1 : x ≤ 4294967295) (HQ : Hid (instrOk (x / 67108864) (x / 4194304 % 16) (x / 262144 % 16) (x / 16384 % 16) (sx (x % 16384)) = q)) :
    Calls Tryz.prog 39 #[.int .u32 x] w fun e w' => e = .returned (.tuple #[if q then ins (x / 67108864) (x / 4194304 % 16) (x / 262144 % 16) (x / 16384 % 16) (sx (x % 16384)) else ins 0 0 0 0 0, .bool q]) ∧ Below w.heap.size w w' := by
  unfold sx at HQ ⊢
  by_cases h : 8192 ≤ x % 16384
  · rw [if_pos h] at HQ ⊢
    exact spec_dec_hi x q w h0 h1 h HQ
  · rw [if_neg h] at HQ ⊢
    exact spec_dec_lo x q w h0 h1 (by omega) HQ
set_option maxHeartbeats 1000000 in
theorem impl_dec (x : Int) (q : Bool) (w : World) (ht : Tab w) (h0 : 0 ≤ x) (h1 : x ≤ 4294967295) (HQ : Hid (instrOk (x / 67108864) (x / 4194304 % 16) (x / 262144 % 16) (x / 16384 % 16) (sx (x % 16384)) = q)) :
    Calls Tryz.prog 53 #[.int .u32 x] w fun e w' => e = .returned (.tuple #[if q then ins (x / 67108864) (x / 4194304 % 16) (x / 262144 % 16) (x / 16384 % 16) (sx (x % 16384)) else ins 0 0 0 0 0, .bool q]) ∧ Below w.heap.size w w' := by
  have HT : Hid _ := ht
  have E1 : Hid _ := and_4 (x / 4194304) (by omega) (by omega)
  have E2 : Hid _ := and_4 (x / 262144) (by omega) (by omega)
  have E3 : Hid _ := and_4 (x / 16384) (by omega) (by omega)
  have E4 : Hid _ := sx_back (x % 16384) (by omega) (by omega)
  clear ht
  go_enter Tryz.func53, Tryz.ntmps53
  go_wp2_with fail
  refine (sext_any x _ h0 h1).mono ?_
  rintro e w0 ⟨rfl, rfl⟩
  go_wp2_with fail
  rw [E1.out, E2.out, E3.out, E4.out]
  refine (impl_ok _ _ _ _ _ _ (Tab.below HT.out (((Below.refl _ w).alloc (Nat.le_refl _) _).alloc (by simp) _))).mono ?_
  rintro e w1 ⟨rfl, hb⟩
  rw [HQ.out]
  have hb0 := (((Below.refl _ w).alloc (Nat.le_refl _) (row 0 0 0 0 0)).alloc (by simp) (row (x / 67108864) (x / 4194304 % 16) (x / 262144 % 16) (x / 16384 % 16) (sx (x % 16384)))).trans (hb.mono (by simp; omega))
  have hz : ∀ i v, (#[Value.int .i64 0, .int .i64 0, .int .i64 0, .int .i64 0, .int .i64 0] : Array Value)[i]? = some v → w1.cell? ⟨w.heap.size, i, none⟩ = some v := fun i v h =>
    (hb.cell (p := ⟨w.heap.size, i, none⟩) (by simp; omega)).trans (cell_alloc (new_cell w _ 66 i v h))
  have hf : ∀ i, w1.frozen? ⟨w.heap.size, i, none⟩ = false := fun i =>
    (hb.frozen (p := ⟨w.heap.size, i, none⟩) (by simp; omega)).trans (by simp)
  have hr : ∀ i v, (#[Value.int .i64 (x / 67108864), .int .i64 (x / 4194304 % 16), .int .i64 (x / 262144 % 16), .int .i64 (x / 16384 % 16), .int .i64 (sx (x % 16384))] : Array Value)[i]? = some v → w1.cell? ⟨w.heap.size + 1, i, none⟩ = some v := fun i v h =>
    (hb.cell (p := ⟨w.heap.size + 1, i, none⟩) (by simp)).trans (by have := new_cell (w.alloc (row 0 0 0 0 0)) _ 66 i v h; simpa using this)
  have z0 := hz 0 (.int .i64 0) rfl
  have z1 := hz 1 (.int .i64 0) rfl
  have z2 := hz 2 (.int .i64 0) rfl
  have z3 := hz 3 (.int .i64 0) rfl
  have z4 := hz 4 (.int .i64 0) rfl
  have r0 := hr 0 (.int .i64 (x / 67108864)) rfl
  have r1 := hr 1 (.int .i64 (x / 4194304 % 16)) rfl
  have r2 := hr 2 (.int .i64 (x / 262144 % 16)) rfl
  have r3 := hr 3 (.int .i64 (x / 16384 % 16)) rfl
  have r4 := hr 4 (.int .i64 (sx (x % 16384))) rfl
  clear hr hz hb
  cases q
  · go_wp2
    exact bodyPost_ret (v := .tuple #[ins 0 0 0 0 0, .bool false]) (by simp [results, Tryz.results53, go_sem, z0, z1, z2, z3, z4]) rfl ⟨rfl, ((((hb0.setCell (Nat.le_refl _) _).setCell (Nat.le_refl _) _).setCell (Nat.le_refl _) _).setCell (Nat.le_refl _) _).setCell (Nat.le_refl _) _⟩
  · go_wp2
    exact bodyPost_ret (v := .tuple #[ins (x / 67108864) (x / 4194304 % 16) (x / 262144 % 16) (x / 16384 % 16) (sx (x % 16384)), .bool true]) (by simp [results, Tryz.results53, go_sem, z0, z1, z2, z3, z4]) rfl ⟨rfl, ((((hb0.setCell (Nat.le_refl _) _).setCell (Nat.le_refl _) _).setCell (Nat.le_refl _) _).setCell (Nat.le_refl _) _).setCell (Nat.le_refl _) _⟩
end Go.Proofs.YtjlhkjiccibgdaaGreatDoor.Is
