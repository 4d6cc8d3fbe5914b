/-
  What a line is: the words of a line read from left to right; plain facts. No function of the program in sight; no conditions but those that each fact names.
-/
import Derived.Test.YtdjapcfejmhjnaaGreatDoorSp
import Derived.Test.YtdjapcfejmhjnaaGreatDoorLab
import Derived.Test.YtdjapcfejmhjnaaGreatDoorNums
import Derived.Test.YtdjapcfejmhjnaaGreatDoorOf
namespace Go.Proofs.YtdjapcfejmhjnaaGreatDoor
open Go.RowKit
set_option linter.unusedVariables false
namespace Rl
/-- What is read of a line. -/
structure A8 where
  kind : Int
  op : Int
  a : Int
  b : Int
  c : Int
  m : Int
  wd : Int
  lab : ByteArray
def A8.val (x : A8) : Value := .agg #[.int .i64 x.kind, .int .i64 x.op, .int .i64 x.a, .int .i64 x.b, .int .i64 x.c, .int .i64 x.m, .int .u32 x.wd, .string x.lab]
abbrev no : A8 := ⟨0, 0, 0, 0, 0, 0, 0, ⟨#[]⟩⟩
/-- The register that a word names. -/
def reg (x : ByteArray) : Option Int := if (Tx.nums x).head? = some 114 then (Dc.ans (Tx.nums x).tail 15).bind fun n => if n < 0 then none else some n else none
/-- One register of the words, where the form has it. -/
def take1 (q : Bool) (r : List ByteArray) : Option (Int × List ByteArray) :=
  match q, r with
  | false, r => some (0, r)
  | true, [] => none
  | true, x :: r => (reg x).map fun n => (n, r)
def isBr (k : Nat) : Bool := decide (19 ≤ k ∧ k ≤ 22)
def immOf (k : Nat) (a b c : Int) (x : ByteArray) : A8 :=
  if isBr k && Lab.ok (Tx.nums x) then ⟨4, k, a, b, c, 0, 0, x⟩ else
  match Dc.ans (Tx.nums x) 8192 with
  | some n => if n ≤ 8191 then ⟨3, k, a, b, c, n, 0, ⟨#[]⟩⟩ else no
  | none => no
def fin (q : Bool) (k : Nat) (a b c : Int) (r : List ByteArray) : A8 :=
  match q, r with
  | false, [] => ⟨3, k, a, b, c, 0, 0, ⟨#[]⟩⟩
  | true, [x] => immOf k a b c x
  | _, _ => no
def k2 (qc qm : Bool) (k : Nat) (a b : Int) (r : List ByteArray) : A8 :=
  match take1 qc r with
  | none => no
  | some (c, r) => fin qm k a b c r
def k1 (qb qc qm : Bool) (k : Nat) (a : Int) (r : List ByteArray) : A8 :=
  match take1 qb r with
  | none => no
  | some (b, r) => k2 qc qm k a b r
/-- An instruction's words behind its name. -/
def k0 (qa qb qc qm : Bool) (k : Nat) (r : List ByteArray) : A8 :=
  match take1 qa r with
  | none => no
  | some (a, r) => k1 qb qc qm k a r
abbrev one (q : Bool) : Nat := if q then 1 else 0
theorem take1_len {q : Bool} {r r' : List ByteArray} {n : Int} (h : take1 q r = some (n, r')) : r.length = r'.length + one q := by
  cases q with
  | false => injection h with h; injection h with _ h; subst h; rfl
  | true =>
    cases r with
    | nil => cases h
    | cons x r =>
      unfold take1 at h
      simp only [Option.map_eq_some_iff] at h
      obtain ⟨_, _, h⟩ := h
      injection h with _ h
      subst h
      rfl
theorem fin_len (q : Bool) (k : Nat) (a b c : Int) (r : List ByteArray) (h : r.length ≠ one q) : fin q k a b c r = no := by
  unfold fin
  split
  · exact absurd rfl h
  · exact absurd rfl h
  · rfl
theorem k2_len (qc qm : Bool) (k : Nat) (a b : Int) (r : List ByteArray) (h : r.length ≠ one qc + one qm) : k2 qc qm k a b r = no := by
  unfold k2
  split
  · rfl
  · rename_i c r' e
    have := take1_len e
    exact fin_len _ _ _ _ _ _ (by omega)
theorem k1_len (qb qc qm : Bool) (k : Nat) (a : Int) (r : List ByteArray) (h : r.length ≠ one qb + (one qc + one qm)) : k1 qb qc qm k a r = no := by
  unfold k1
  split
  · rfl
  · rename_i c r' e
    have := take1_len e
    exact k2_len _ _ _ _ _ _ (by omega)
theorem k0_len (qa qb qc qm : Bool) (k : Nat) (r : List ByteArray) (h : r.length ≠ one qa + (one qb + (one qc + one qm))) : k0 qa qb qc qm k r = no := by
  unfold k0
  split
  · rfl
  · rename_i c r' e
    have := take1_len e
    exact k1_len _ _ _ _ _ _ (by omega)
/-- The words behind .word. -/
def rdW (r : List ByteArray) : A8 :=
  match r with
  | [x] =>
    match Dc.ans (Tx.nums x) 4294967295 with
    | some n => if n < 0 then no else ⟨2, 0, 0, 0, 0, 0, n, ⟨#[]⟩⟩
    | none => no
  | _ => no
def form (k : Nat) : Int := forms.getD k 0
def rdI (k : Nat) (r : List ByteArray) : A8 := k0 (form k % 2 == 1) (form k / 2 % 2 == 1) (form k / 4 % 2 == 1) (form k / 8 % 2 == 1) k r
def opN (x : ByteArray) : Option Nat := (List.range 33).find? fun t => (nm t).toList == x.toList
def dotW : ByteArray := ⟨#[46, 119, 111, 114, 100]⟩
/-- The words of a line that is no label. -/
def rd (w : ByteArray) (r : List ByteArray) : A8 :=
  if w = dotW then rdW r else
  match opN w with
  | none => no
  | some k => rdI k r
theorem opN_hit (x : ByteArray) (t : Nat) (ht : t < 33) (h : ((nm t).toList == x.toList) = true) (hn : NoneUp x t) : opN x = some t := by
  unfold opN
  rw [List.find?_range_eq_some]
  exact ⟨h, by simpa using ht, fun j hj => by rw [hn j hj]; rfl⟩
theorem opN_miss (x : ByteArray) (hn : NoneUp x 33) : opN x = none := by
  unfold opN
  rw [List.find?_range_eq_none]
  exact fun j hj => by rw [hn j hj]; rfl
theorem dec_letter (most b : Int) (l : List Int) (f : Bool) (z : Int) (h : 57 < b) : Dc.dec most (b :: l) f z = none := Dc.dec_no _ _ _ _ _ (fun h' => by omega)
theorem ok_head (l : List Int) (h : Lab.ok l = true) : ∃ b l', l = b :: l' ∧ 97 ≤ b ∧ b ≤ 122 := by
  unfold Lab.ok at h
  cases l with
  | nil => simp at h
  | cons b l' =>
    simp only [Bool.and_eq_true, Lab.low, decide_eq_true_eq] at h
    exact ⟨b, l', rfl, h.2.1.1, h.2.1.2⟩
/-- What is the name of a label is no number. -/
theorem ok_num (l : List Int) (most : Int) (h : Lab.ok l = true) : Dc.ans l most = none := by
  obtain ⟨b, l', rfl, h1, h2⟩ := ok_head l h
  unfold Dc.ans
  split
  · unfold Dc.num
    rw [if_neg (by simp; omega), dec_letter _ _ _ _ _ (by omega)]
  · rfl
/-- A text that ends in a colon, and what stands ahead of it. -/
def colon (s : ByteArray) : Bool := s.data.toList.getLast? == some 58
def ahead (s : ByteArray) : ByteArray := s.extract 0 (s.size - 1)
/-- What a line is. -/
def line (s : ByteArray) : A8 :=
  if 80 < s.size then no else
  if colon s && Lab.ok (Tx.nums (ahead s)) then ⟨1, 0, 0, 0, 0, 0, 0, ahead s⟩ else
  match Sp.texts 32 s with
  | [] => no
  | w :: r => rd w r
end Rl
end Go.Proofs.YtdjapcfejmhjnaaGreatDoor
