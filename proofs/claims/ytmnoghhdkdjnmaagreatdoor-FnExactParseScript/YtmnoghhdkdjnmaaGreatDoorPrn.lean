
/-
  Texts of tables, as plain functions: lines, their sizes; a word with numbers behind it, by the specification. Conditions: numbers are 64-bit numbers, texts are short enough.
-/
import Derived.Test.YtmnoghhdkdjnmaaGreatDoorBas
import Derived.Test.YtmnoghhdkdjnmaaGreatDoorText3
import Derived.Test.YtmnoghhdkdjnmaaGreatDoorIns
namespace Go.Proofs.YtmnoghhdkdjnmaaGreatDoor
open Go.ChangeShapes Go.WideShapes Go.ChangeAt Go.RowKit Go.Deep
set_option linter.unusedVariables false

namespace Pn
abbrev sp : ByteArray := ⟨#[32]⟩
abbrev nl : ByteArray := ⟨#[10]⟩
def dt (n : Int) : ByteArray := Tx.txt (Dc.dect n)
theorem dg_len : ∀ f n, (Dc.dg f n).length ≤ f
  | 0, n => by simp [Dc.dg]
  | f + 1, n => by
    rw [Dc.dg]
    split
    · simp
    · simp only [List.length_append, List.length_cons, List.length_nil]
      have := dg_len f (n / 10)
      omega
theorem dt_size (n : Int) : (dt n).size ≤ 21 := by
  unfold dt
  rw [Tx.txt_size]
  unfold Dc.dect
  split
  · simp
  · split
    · simp only [List.length_cons]
      have := dg_len 20 n.natAbs
      omega
    · have := dg_len 20 n.natAbs
      omega
def fold (k : ByteArray) : List Int → ByteArray
  | [] => k
  | n :: ns => fold (k ++ sp ++ dt n) ns
theorem fold_snoc : ∀ (zs : List Int) (k : ByteArray) (z : Int), fold k (zs ++ [z]) = fold k zs ++ sp ++ dt z
  | [], k, z => rfl
  | x :: xs, k, z => by
    show fold _ (xs ++ [z]) = _
    rw [fold_snoc xs]
    rfl
theorem fold_take (k : ByteArray) (zs : List Int) (m : Nat) (h : m < zs.length) : fold k (zs.take (m + 1)) = fold k (zs.take m) ++ sp ++ dt (zs.getD m 0) := by
  rw [take_getD zs m h, fold_snoc]
theorem fold_app : ∀ (zs : List Int) (k l : ByteArray), fold (k ++ l) zs = k ++ fold l zs
  | [], k, l => rfl
  | x :: xs, k, l => by
    show fold _ xs = k ++ fold _ xs
    rw [← fold_app xs k]
    congr 1
    simp only [ByteArray.append_assoc]
theorem sp_size : sp.size = 1 := rfl
theorem nl_size : nl.size = 1 := rfl
theorem fold_size : ∀ (zs : List Int) (k : ByteArray), (fold k zs).size ≤ k.size + 22 * zs.length
  | [], k => by simp [fold]
  | x :: xs, k => by
    have h := fold_size xs (k ++ sp ++ dt x)
    have h2 := dt_size x
    show (fold _ xs).size ≤ _
    simp only [ByteArray.size_append, sp_size, List.length_cons] at h ⊢
    omega
def say (k : ByteArray) (ns : List Int) : ByteArray := fold k ns ++ nl
theorem say_app (k l : ByteArray) (ns : List Int) : say (k ++ l) ns = k ++ say l ns := by
  unfold say
  rw [fold_app, ByteArray.append_assoc]
theorem say_size (k : ByteArray) (ns : List Int) : (say k ns).size ≤ k.size + 22 * ns.length + 1 := by
  have := fold_size ns k
  unfold say
  rw [ByteArray.size_append, nl_size]
  omega
def cat : List ByteArray → ByteArray
  | [] => ⟨#[]⟩
  | x :: xs => x ++ cat xs
theorem empty_app (x : ByteArray) : (⟨#[]⟩ : ByteArray) ++ x = x := ByteArray.empty_append
theorem app_empty (x : ByteArray) : x ++ (⟨#[]⟩ : ByteArray) = x := ByteArray.append_empty
theorem cat_app : ∀ (xs ys : List ByteArray), cat (xs ++ ys) = cat xs ++ cat ys
  | [], ys => (empty_app _).symm
  | x :: xs, ys => by
    show x ++ cat (xs ++ ys) = (x ++ cat xs) ++ cat ys
    rw [cat_app xs ys, ByteArray.append_assoc]
theorem cat_one (x : ByteArray) : cat [x] = x := app_empty x
theorem cat_snoc (xs : List ByteArray) (x : ByteArray) : cat (xs ++ [x]) = cat xs ++ x := by rw [cat_app, cat_one]
theorem cat_size (N : Nat) : ∀ (xs : List ByteArray), (∀ x ∈ xs, x.size ≤ N) → (cat xs).size ≤ N * xs.length
  | [], _ => Nat.zero_le _
  | x :: xs, h => by
    have h1 := h x (by simp)
    have h2 := cat_size N xs (fun y hy => h y (by simp [hy]))
    show (x ++ cat xs).size ≤ _
    rw [ByteArray.size_append, List.length_cons, Nat.mul_add, Nat.mul_one]
    omega
end Pn

set_option maxHeartbeats 1000000 in
theorem spec_say (k : ByteArray) (a : Option Addr) (n cap : Nat) (zs : List Int) (w : World) (hs : GSeg 1 w a n (inX zs)) (hl : zs.length = n) (hb : ∀ z ∈ zs, -9223372036854775808 ≤ z ∧ z ≤ 9223372036854775807) (hk : k.size ≤ 1099511627776) (hn : n ≤ 16) :
    Calls Tryz.prog 24 #[.string k, .slice a n cap] w fun e w' => e = .returned (.string (Pn.say k zs)) ∧ w' = w := by
  have HS : Hid (GSeg 1 w a n (inX zs)) := hs
  have HL : Hid (zs.length = n) := hl
  have HB : Hid (∀ z ∈ zs, -9223372036854775808 ≤ z ∧ z ≤ 9223372036854775807) := hb
  clear hs hl hb
  go_enter Tryz.func24, Tryz.ntmps24
  go_wp2
  go_loop [0, 5] (fun s i => ∃ (m : Nat) (x : ByteArray), m ≤ n ∧ i = .int .i64 m ∧ s = .string x ∧ x.size ≤ 1099511629000 ∧ Hid (x = Pn.fold k (zs.take m))) (fun _ i => n - (intOf i).toNat)
  case atStart => exact ⟨0, k, by omega, rfl, rfl, by omega, rfl⟩
  case round =>
    obtain ⟨m, x, hm, rfl, rfl, hx, HX⟩ := hrel
    by_cases hmn : m < n
    rotate_left
    · obtain rfl : m = n := by omega
      have HE : Hid (x ++ Pn.nl = Pn.say k zs) := by
        show _ = _
        rw [HX.out, ← HL.out, List.take_length]
        rfl
      go_wp2
      go_ret
      exact ⟨by rw [← HE.out]; rfl, rfl⟩
    have hmn' : (m : Int) < (n : Int) := by omega
    obtain ⟨b, o, rfl, hlt, hc⟩ := HS.out.at m hmn
    have c0 : w.cell? ⟨b, o + m, none⟩ = some (.int .i64 (zs.getD m 0)) := by
      have := hc 0 _ rfl
      simpa using this
    have hzb := HB.out _ (getD_mem zs m (by rw [HL.out]; exact hmn))
    have HN : Hid (x ++ Pn.sp ++ Pn.dt (zs.getD m 0) = Pn.fold k (zs.take (m + 1)) ∧ (Pn.fold k (zs.take (m + 1))).size ≤ 1099511629000) := by
      refine ⟨by rw [HX.out, Pn.fold_take k zs m (by rw [HL.out]; exact hmn)], ?_⟩
      have := Pn.fold_size (zs.take (m + 1)) k
      rw [List.length_take] at this
      omega
    have HD : Hid ((Pn.dt (zs.getD m 0)).size ≤ 21) := Pn.dt_size _
    have HT : Hid (Tx.txt (Dc.dect (zs.getD m 0)) = Pn.dt (zs.getD m 0)) := rfl
    clear hc hlt
    generalize zs.getD m 0 = z at c0 hzb HN HD HT
    obtain ⟨hz1, hz2⟩ := hzb
    have HZ : Hid (-9223372036854775808 ≤ z ∧ z ≤ 9223372036854775807) := ⟨hz1, hz2⟩
    clear hz1 hz2
    go_wp2_with fail
    refine (spec_text z _ HZ.out.1 HZ.out.2).mono ?_
    rintro e w1 ⟨rfl, rfl⟩
    rw [HT.out]
    have hd := HD.out
    generalize Pn.dt z = d at hd HN
    go_wp2
    go_round
    case rel => exact ⟨m + 1, _, by omega, by go_num, rfl, by rw [HN.out.1]; exact HN.out.2, HN.out.1⟩
    case measure => simp [intOf]; omega

end Go.Proofs.YtmnoghhdkdjnmaaGreatDoor
