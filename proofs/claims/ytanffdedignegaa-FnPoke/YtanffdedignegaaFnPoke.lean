/-
  What is written into memory, read again, on lists: the word comes back, and no other byte is another. No function of the program in sight; no conditions but those that each fact names.
  The law FnPoke, walked: what is written is read, and no other byte is another; where something stands against it, nothing is. Conditions: the bytes are at most 1048576.
  At every code the law FnPoke returns true (where nothing stands against writing and reading, what is written is read, and no other byte is another; where something stands against it, nothing is) and its argument reads as before. No conditions.
  Built over the program of the commit that COMMIT names.
-/
import Derived.Test.YtanffdedignegaaPok
import Derived.Test.YtanffdedignegaaRdh
import Derived.Test.YtanffdedignegaaRows
import Derived.Test.YtanffdedignegaaDpq
import Derived.Test.YtanffdedignegaaPoi
import Derived.Laws.BytesArg
import Derived.WalkKit
import Derived.ProofKit
import Derived.OpenShut
import Derived.ShutString
import Derived.ChangeOld
import Derived.Below
namespace Go.Proofs.Ytanffdedignegaa
open Go.ChangeShapes Go.WideShapes Go.ChangeAt Go.RowKit Go.Deep
set_option linter.unusedVariables false
namespace Iy

theorem putN_out {row : List Int} {fr : Nat} {zs : List Int} {k : Nat} : ∀ S, (k < fr ∨ fr + S ≤ k) → (putN row fr zs S).getD k 0 = row.getD k 0
  | 0, _ => rfl
  | S + 1, h => by
    have ih := putN_out (row := row) (zs := zs) S (k := k) (fr := fr) (by omega)
    rw [putN, List.getD, List.getElem?_set_ne (by omega)]
    exact ih
theorem putN_in {row : List Int} {fr : Nat} {zs : List Int} {j : Nat} : ∀ S, j < S → fr + S ≤ row.length → (putN row fr zs S).getD (fr + j) 0 = zs.getD j 0
  | 0, h, _ => absurd h (by omega)
  | S + 1, h, hl => by
    by_cases c : j = S
    · subst c
      rw [putN, List.getD, List.getElem?_set_self (by rw [putN_len]; omega)]
      rfl
    · have ih := putN_in (row := row) (zs := zs) (fr := fr) (j := j) S (by omega) (by omega)
      rw [putN, List.getD, List.getElem?_set_ne (by omega)]
      exact ih
/-- Bytes that an access doesn't name stay. -/
theorem put_stays {xs : List Wn} {n : Nat} {D : Nat → List Int} {ad size : Int} {K fr S : Nat} {bs x : Int} (h : AccIn xs n D ad size K fr S bs) {i k : Nat} (ho : (xs.getD i wn0).1 + (k : Int) < ad ∨ ad + size ≤ (xs.getD i wn0).1 + (k : Int)) : (putD D K fr S x i).getD k 0 = (D i).getD k 0 := by
  unfold putD
  by_cases c : i = K
  · subst c
    rw [if_pos rfl]
    have h1 := h.base
    have h2 := h.at_
    have h3 := h.sz
    exact putN_out S (by omega)
  · rw [if_neg c]
/-- The word comes back. -/
theorem put_back {xs : List Wn} {n : Nat} {D : Nat → List Int} {ad size : Int} {K fr S : Nat} {bs x : Int} (h : AccIn xs n D ad size K fr S bs) (hx : 0 ≤ x ∧ x ≤ 4294967295) : getW (putD D K fr S x) K fr S = if S = 1 then x % 256 else x := by
  have hb : ∀ j, j < S → bt (putD D K fr S x) K (fr + j) = (Wd.bytes x).getD j 0 := fun j hj => by
    unfold bt putD
    rw [if_pos rfl]
    exact putN_in S hj h.inn
  rcases h.s14 with rfl | rfl
  · have h0 := hb 0 (by omega)
    simp [getW]
    rw [Nat.add_zero] at h0
    rw [h0]
    rfl
  · have h0 := hb 0 (by omega)
    have h1 := hb 1 (by omega)
    have h2 := hb 2 (by omega)
    have h3 := hb 3 (by omega)
    rw [Nat.add_zero] at h0
    simp only [getW]
    rw [if_neg (by omega), if_neg (by omega), h0, h1, h2, h3]
    show x % 256 + 256 * (x / 256 % 256) + 65536 * (x / 65536 % 256) + 16777216 * (x / 16777216) = x
    omega
/-- What is read where something was written. -/
theorem read_back {xs : List Wn} {rs : List Int} {n : Nat} {D D1 : Nat → List Int} {ad size x v : Int} (hg : GOk xs rs n D) (hpk : PkP xs n D ad size x 0 D1) (hrd : RdP xs n D1 ad size 1 v 0) (hx : 0 ≤ x ∧ x ≤ 4294967295) : v = if size = 1 then x % 256 else x := by
  obtain ⟨_, _, h⟩ := hpk
  rcases h with ⟨h, _⟩ | ⟨_, K, fr, S, bs, hat, hin, rfl⟩
  · exact absurd rfl h
  obtain ⟨ra, hra, _, h⟩ := hrd
  rcases h with ⟨h, _⟩ | ⟨_, K', fr', S', bs', hK, hin', hv⟩
  · exact absurd rfl h
  have hKK : K' = K := by
    rw [hK] at hra
    have := AtP.uniq hra hat
    omega
  subst hKK
  have e1 : bs' = bs := hin'.base.symm.trans hin.base
  have e2 : fr' = fr := by have := hin'.at_; have := hin.at_; omega
  have e3 : S' = S := by have := hin'.sz; have := hin.sz; omega
  subst e1 e2 e3
  rw [hv, put_back hin hx]
  have h3 := hin.sz
  rcases hin.s14 with rfl | rfl
  · rw [if_pos rfl, if_pos (by omega)]
  · rw [if_neg (by omega), if_neg (by omega)]
theorem PkP.stays {xs : List Wn} {n : Nat} {D D1 : Nat → List Int} {ad size x r : Int} (h : PkP xs n D ad size x r D1) {i k : Nat} (ho : (xs.getD i wn0).1 + (k : Int) < ad ∨ ad + size ≤ (xs.getD i wn0).1 + (k : Int)) : (D1 i).getD k 0 = (D i).getD k 0 := by
  obtain ⟨_, _, h⟩ := h
  rcases h with ⟨_, rfl⟩ | ⟨_, K, fr, S, bs, hat, hin, rfl⟩
  · rfl
  · exact put_stays hin ho
theorem PkP.len {xs : List Wn} {n : Nat} {D D1 : Nat → List Int} {ad size x r : Int} (h : PkP xs n D ad size x r D1) (i : Nat) : (D1 i).length = (D i).length := by
  obtain ⟨_, _, h⟩ := h
  rcases h with ⟨_, rfl⟩ | ⟨_, K, fr, S, bs, hat, hin, rfl⟩
  · rfl
  · exact putD_len D K fr S x i
theorem GOk.other {xs : List Wn} {rs : List Int} {n : Nat} {D D1 : Nat → List Int} (h : GOk xs rs n D) (hl : ∀ i, (D1 i).length = (D i).length) : GOk xs rs n D1 :=
  ⟨h.1, h.2.1, h.2.2.1, h.2.2.2.1, fun i hi => by rw [hl i]; exact h.2.2.2.2 i hi⟩
end Iy
end Go.Proofs.Ytanffdedignegaa
namespace Go.Proofs.Ytanffdedignegaa
open Go.ChangeShapes Go.WideShapes Go.ChangeAt Go.RowKit Go.Deep
set_option linter.unusedVariables false
namespace Iy

theorem big_no (a : Option Addr) (n cap : Nat) (w : World) (h : n ≤ 1048576) : Calls Try.prog 4 #[.slice a n cap] w fun e w' => e = .returned (.bool false) ∧ w' = w := by
  have h1 : decide (1048576 < (n : Int)) = false := decide_eq_false (by omega)
  go_enter Try.func4, Try.ntmps4
  go_wp2
  go_ret
  exact ⟨rfl, rfl⟩
theorem big_yes (a : Option Addr) (n cap : Nat) (w : World) (h : ¬ n ≤ 1048576) : Calls Try.prog 4 #[.slice a n cap] w fun e w' => e = .returned (.bool true) ∧ w' = w := by
  have h1 : decide (1048576 < (n : Int)) = true := decide_eq_true (by omega)
  go_enter Try.func4, Try.ntmps4
  go_wp2
  go_ret
  exact ⟨rfl, rfl⟩

structure Rs6 (W : World) (v17 : Value) (v18 : Value) (v19 : Value) (v20 : Value) (v21 : Value) (v22 : Value) (v24 : Value) (v25 : Value) (TT : Nat) (w' : World) (b0 b1 b2 b3 b4 b5 b6 b7 b8 b9 b10 : Bool) (x17 x18 x19 x20 x21 x22 x23 x24 x25 x26 x27 : Value) : Prop where
  gb : Below W.heap.size W w'
  f0 : b0 = true → x17 = v17
  f1 : b1 = true → x18 = v18
  f2 : b2 = true → x19 = v19
  f3 : b3 = true → x20 = v20
  f4 : b4 = true → x21 = v21
  f5 : b5 = true → x22 = v22
  f6 : b6 = true → x23 = v18
  f7 : b7 = true → x24 = v24
  f8 : b8 = true → x25 = v25
  f9 : b9 = true → x26 = v21
  f10 : b10 = true → x27 = .bool false
set_option maxRecDepth 20000 in
set_option maxHeartbeats 4000000 in
theorem same_bytes (a b : Option Addr) (ca cb n : Nat) (D : Nat → List Int) (w : World) (ha : BSeg w a n D) (hb : BSeg w b n D) (hn : n ≤ 1048576) (hpos : ∀ i, i < n → 0 < (D i).length) :
    Calls Try.prog 10 #[.slice a n ca, .slice b n cb] w fun e w' => e = .returned (.bool true) ∧ Below w.heap.size w w' := by
  by_cases h0 : n = 0
  · subst h0
    clear ha hb hpos
    go_enter Try.func10, Try.ntmps10
    go_wp2
    refine wp_loop_rounds 1 ?_
    rw [rounds_succ]
    go_wp2
    go_ret
    exact ⟨rfl, Below.refl _ _⟩
  obtain ⟨ab, ao, rfl, hla, hca⟩ := ha (by omega)
  obtain ⟨bb, bo, rfl, hlb, hcb⟩ := hb (by omega)
  have HCA : Hid _ := hca
  have HCB : Hid _ := hcb
  have HPO : Hid (∀ i, i < n → 0 < (D i).length) := hpos
  have hnn : ((n : Int) != (n : Int)) = false := by simp
  clear ha hb hca hcb hpos
  go_enter Try.func10, Try.ntmps10
  go_wp2
  go_loopw [5] (fun i wr => ∃ j : Nat, j ≤ n ∧ i = .int .i64 j ∧ Hid (Below w.heap.size w wr)) (fun i _ => n - (intOf i).toNat)
  case atStart => exact ⟨0, by omega, rfl, Below.refl _ _⟩
  case round =>
    obtain ⟨i, hi, rfl, HBW⟩ := hrel
    by_cases hin : i < n
    rotate_left
    · have hin' : ¬ ((i : Int) < (n : Int)) := by omega
      go_wp2
      go_ret
      exact ⟨rfl, HBW.out⟩
    have hin' : (i : Int) < (n : Int) := by omega
    obtain ⟨a1, k1, c1, s1, _⟩ := HCA.out i hin
    obtain ⟨a2, k2, c2, s2, _⟩ := HCB.out i hin
    obtain ⟨r1, p1, rfl, l1, d1⟩ := s1 (HPO.out i hin)
    obtain ⟨r2, p2, rfl, l2, d2⟩ := s2 (HPO.out i hin)
    obtain ⟨row, hrow⟩ : ∃ r, r = D i := ⟨_, rfl⟩
    rw [← hrow] at c1 c2 d1 d2
    obtain ⟨len, hlen⟩ : ∃ l, row.length = l := ⟨_, rfl⟩
    rw [hlen] at c1 c2 d1 d2
    have HA : Hid (∀ X, Below wr.heap.size wr X → X.cell? ⟨ab, ao + i, none⟩ = some (.slice (some ⟨r1, p1, none⟩) len k1)) := fun X hX => ((HBW.out.trans (hX.mono HBW.out.size)).cell (p := ⟨ab, ao + i, none⟩) hla).trans c1
    have HB : Hid (∀ X, Below wr.heap.size wr X → X.cell? ⟨bb, bo + i, none⟩ = some (.slice (some ⟨r2, p2, none⟩) len k2)) := fun X hX => ((HBW.out.trans (hX.mono HBW.out.size)).cell (p := ⟨bb, bo + i, none⟩) hlb).trans c2
    have HCV1 : Hid (∀ X, Below wr.heap.size wr X → (convert 22 9 (.slice (some ⟨r1, p1, none⟩) len k1)).run Try.prog X = .ok (.string (strOfNums row)) X) := fun X hX => run_convert_bytes_arg X 22 5 Try.underlying22 Try.underlying5 r1 p1 len k1 row hlen (fun j hj => ((HBW.out.trans (hX.mono HBW.out.size)).cell (p := ⟨r1, p1 + j, none⟩) l1).trans (d1 j hj)) 9 Try.underlying9
    have HCV2 : Hid (∀ X, Below wr.heap.size wr X → (convert 22 9 (.slice (some ⟨r2, p2, none⟩) len k2)).run Try.prog X = .ok (.string (strOfNums row)) X) := fun X hX => run_convert_bytes_arg X 22 5 Try.underlying22 Try.underlying5 r2 p2 len k2 row hlen (fun j hj => ((HBW.out.trans (hX.mono HBW.out.size)).cell (p := ⟨r2, p2 + j, none⟩) l2).trans (d2 j hj)) 9 Try.underlying9
    clear c1 c2 s1 s2 l1 l2 d1 d2 hrow hlen
    go_wp2
    refine wp_region_inv (by kernel_rfl) (by kernel_rfl) (fun A ℓ a' w' => ∃ (x17 x18 x19 x20 x21 x22 x23 x24 x25 x26 x27 : Value), a' = (((((((((((A.put (some 17) x17).put (some 18) x18).put (some 19) x19).put (some 20) x20).put (some 21) x21).put (some 22) x22).put (some 23) x23).put (some 24) x24).put (some 25) x25).put (some 26) x26).put (some 27) x27) ∧ Rs6 wr (.slice (some ⟨ab, ao, none⟩) n ca) (.int .i64 (i : Int)) (.pointer (some ⟨ab, ao + i, none⟩)) (.slice (some ⟨r1, p1, none⟩) len k1) (.string (strOfNums row)) (.slice (some ⟨bb, bo, none⟩) n cb) (.pointer (some ⟨bb, bo + i, none⟩)) (.slice (some ⟨r2, p2, none⟩) len k2) 0 w' (ℓ 0) (ℓ 1) (ℓ 2) (ℓ 3) (ℓ 4) (ℓ 5) (ℓ 6) (ℓ 7) (ℓ 8) (ℓ 9) (ℓ 10) x17 x18 x19 x20 x21 x22 x23 x24 x25 x26 x27) ?_ ?_ ?_ ?_
    · exact ⟨u17, u18, u19, u20, u21, u22, u23, u24, u25, u26, u27, (by simp only [Act.put, List.setIfInBounds_toArray, List.set_cons_zero, List.set_cons_succ]), ⟨(Below.refl _ _).drew, (fun g => by cases g), (fun g => by cases g), (fun g => by cases g), (fun g => by cases g), (fun g => by cases g), (fun g => by cases g), (fun g => by cases g), (fun g => by cases g), (fun g => by cases g), (fun g => by cases g), (fun g => by cases g)⟩⟩
    · intro ℓ a' w' hI hall
      obtain ⟨x17, x18, x19, x20, x21, x22, x23, x24, x25, x26, x27, rfl, hr⟩ := hI
      have hall' : ∀ i, i < 11 → ℓ i = true := hall
      obtain rfl := hr.f0 (hall' 0 (by decide))
      obtain rfl := hr.f1 (hall' 1 (by decide))
      obtain rfl := hr.f2 (hall' 2 (by decide))
      obtain rfl := hr.f3 (hall' 3 (by decide))
      obtain rfl := hr.f4 (hall' 4 (by decide))
      obtain rfl := hr.f5 (hall' 5 (by decide))
      obtain rfl := hr.f6 (hall' 6 (by decide))
      obtain rfl := hr.f7 (hall' 7 (by decide))
      obtain rfl := hr.f8 (hall' 8 (by decide))
      obtain rfl := hr.f9 (hall' 9 (by decide))
      obtain rfl := hr.f10 (hall' 10 (by decide))
      have gb : Hid (Below wr.heap.size wr w') := hr.gb
      clear hall hall' hr
      simp only [Act.put, List.setIfInBounds_toArray, List.set_cons_zero, List.set_cons_succ]
      go_wp2
      go_roundw
      case rel => exact ⟨i + 1, by omega, by go_num, HBW.out.trans (gb.out.mono HBW.out.size)⟩
      case measure => simp [intOf]; omega
    · intro ℓ a' w' i o hI ho hi hL hdep K hK
      obtain ⟨x17, x18, x19, x20, x21, x22, x23, x24, x25, x26, x27, rfl, hr⟩ := hI
      have hi7 : i < 11 := hi
      have hcs : i = 0 ∨ i = 1 ∨ i = 2 ∨ i = 3 ∨ i = 4 ∨ i = 5 ∨ i = 6 ∨ i = 7 ∨ i = 8 ∨ i = 9 ∨ i = 10 := by omega
      clear hi hi7
      rcases hcs with rfl | rfl | rfl | rfl | rfl | rfl | rfl | rfl | rfl | rfl | rfl
      · obtain rfl := Option.some.inj ho
        clear hdep ho
        have gb : Hid (Below wr.heap.size wr w') := hr.gb
        revert hK
        intro hK
        rw [if_pos (by rfl)]
        try simp only [Act.put, List.setIfInBounds_toArray, List.set_cons_zero, List.set_cons_succ]
        go_simp
        exact hK.out _ _ (fun j => if j = 0 then true else ℓ j) ⟨.slice (some ⟨ab, ao, none⟩) n ca, x18, x19, x20, x21, x22, x23, x24, x25, x26, x27, (by simp only [Act.put, List.setIfInBounds_toArray, List.set_cons_zero, List.set_cons_succ]), ⟨hr.gb, (fun _ => rfl), hr.f1, hr.f2, hr.f3, hr.f4, hr.f5, hr.f6, hr.f7, hr.f8, hr.f9, hr.f10⟩⟩ (if_pos rfl) (fun j hj => if_neg hj)
      · obtain rfl := Option.some.inj ho
        clear hdep ho
        have gb : Hid (Below wr.heap.size wr w') := hr.gb
        revert hK
        intro hK
        rw [if_pos (by rfl)]
        try simp only [Act.put, List.setIfInBounds_toArray, List.set_cons_zero, List.set_cons_succ]
        go_simp
        exact hK.out _ _ (fun j => if j = 1 then true else ℓ j) ⟨x17, .int .i64 (i : Int), x19, x20, x21, x22, x23, x24, x25, x26, x27, (by simp only [Act.put, List.setIfInBounds_toArray, List.set_cons_zero, List.set_cons_succ]), ⟨hr.gb, hr.f0, (fun _ => rfl), hr.f2, hr.f3, hr.f4, hr.f5, hr.f6, hr.f7, hr.f8, hr.f9, hr.f10⟩⟩ (if_pos rfl) (fun j hj => if_neg hj)
      · obtain rfl := Option.some.inj ho
        have g0 : ℓ 0 = true := hdep { on := 0, ground := Ground.data } (by simp) rfl
        have g1 : ℓ 1 = true := hdep { on := 1, ground := Ground.data } (by simp) rfl
        clear hdep ho
        have gb : Hid (Below wr.heap.size wr w') := hr.gb
        revert hK
        obtain rfl := hr.f0 g0
        obtain rfl := hr.f1 g1
        intro hK
        rw [if_pos (by rfl)]
        try simp only [Act.put, List.setIfInBounds_toArray, List.set_cons_zero, List.set_cons_succ]
        go_simp
        exact hK.out _ _ (fun j => if j = 2 then true else ℓ j) ⟨.slice (some ⟨ab, ao, none⟩) n ca, .int .i64 (i : Int), .pointer (some ⟨ab, ao + i, none⟩), x20, x21, x22, x23, x24, x25, x26, x27, (by simp only [Act.put, List.setIfInBounds_toArray, List.set_cons_zero, List.set_cons_succ]), ⟨hr.gb, hr.f0, hr.f1, (fun _ => rfl), hr.f3, hr.f4, hr.f5, hr.f6, hr.f7, hr.f8, hr.f9, hr.f10⟩⟩ (if_pos rfl) (fun j hj => if_neg hj)
      · obtain rfl := Option.some.inj ho
        have g2 : ℓ 2 = true := hdep { on := 2, ground := Ground.data } (by simp) rfl
        clear hdep ho
        have gb : Hid (Below wr.heap.size wr w') := hr.gb
        revert hK
        obtain rfl := hr.f2 g2
        intro hK
        have q0 := HA.out _ hr.gb
        rw [if_pos (by rfl)]
        try simp only [Act.put, List.setIfInBounds_toArray, List.set_cons_zero, List.set_cons_succ]
        go_simp
        exact hK.out _ _ (fun j => if j = 3 then true else ℓ j) ⟨x17, x18, .pointer (some ⟨ab, ao + i, none⟩), .slice (some ⟨r1, p1, none⟩) len k1, x21, x22, x23, x24, x25, x26, x27, (by simp only [Act.put, List.setIfInBounds_toArray, List.set_cons_zero, List.set_cons_succ]), ⟨hr.gb, hr.f0, hr.f1, hr.f2, (fun _ => rfl), hr.f4, hr.f5, hr.f6, hr.f7, hr.f8, hr.f9, hr.f10⟩⟩ (if_pos rfl) (fun j hj => if_neg hj)
      · obtain rfl := Option.some.inj ho
        have g3 : ℓ 3 = true := hdep { on := 3, ground := Ground.data } (by simp) rfl
        clear hdep ho
        have gb : Hid (Below wr.heap.size wr w') := hr.gb
        revert hK
        obtain rfl := hr.f3 g3
        intro hK
        have hcv := HCV1.out _ hr.gb
        rw [if_pos (by rfl)]
        try simp only [Act.put, List.setIfInBounds_toArray, List.set_cons_zero, List.set_cons_succ]
        go_simp
        exact hK.out _ _ (fun j => if j = 4 then true else ℓ j) ⟨x17, x18, x19, .slice (some ⟨r1, p1, none⟩) len k1, .string (strOfNums row), x22, x23, x24, x25, x26, x27, (by simp only [Act.put, List.setIfInBounds_toArray, List.set_cons_zero, List.set_cons_succ]), ⟨hr.gb, hr.f0, hr.f1, hr.f2, hr.f3, (fun _ => rfl), hr.f5, hr.f6, hr.f7, hr.f8, hr.f9, hr.f10⟩⟩ (if_pos rfl) (fun j hj => if_neg hj)
      · obtain rfl := Option.some.inj ho
        clear hdep ho
        have gb : Hid (Below wr.heap.size wr w') := hr.gb
        revert hK
        intro hK
        rw [if_pos (by rfl)]
        try simp only [Act.put, List.setIfInBounds_toArray, List.set_cons_zero, List.set_cons_succ]
        go_simp
        exact hK.out _ _ (fun j => if j = 5 then true else ℓ j) ⟨x17, x18, x19, x20, x21, .slice (some ⟨bb, bo, none⟩) n cb, x23, x24, x25, x26, x27, (by simp only [Act.put, List.setIfInBounds_toArray, List.set_cons_zero, List.set_cons_succ]), ⟨hr.gb, hr.f0, hr.f1, hr.f2, hr.f3, hr.f4, (fun _ => rfl), hr.f6, hr.f7, hr.f8, hr.f9, hr.f10⟩⟩ (if_pos rfl) (fun j hj => if_neg hj)
      · obtain rfl := Option.some.inj ho
        clear hdep ho
        have gb : Hid (Below wr.heap.size wr w') := hr.gb
        revert hK
        intro hK
        rw [if_pos (by rfl)]
        try simp only [Act.put, List.setIfInBounds_toArray, List.set_cons_zero, List.set_cons_succ]
        go_simp
        exact hK.out _ _ (fun j => if j = 6 then true else ℓ j) ⟨x17, x18, x19, x20, x21, x22, .int .i64 (i : Int), x24, x25, x26, x27, (by simp only [Act.put, List.setIfInBounds_toArray, List.set_cons_zero, List.set_cons_succ]), ⟨hr.gb, hr.f0, hr.f1, hr.f2, hr.f3, hr.f4, hr.f5, (fun _ => rfl), hr.f7, hr.f8, hr.f9, hr.f10⟩⟩ (if_pos rfl) (fun j hj => if_neg hj)
      · obtain rfl := Option.some.inj ho
        have g5 : ℓ 5 = true := hdep { on := 5, ground := Ground.data } (by simp) rfl
        have g6 : ℓ 6 = true := hdep { on := 6, ground := Ground.data } (by simp) rfl
        clear hdep ho
        have gb : Hid (Below wr.heap.size wr w') := hr.gb
        revert hK
        obtain rfl := hr.f5 g5
        obtain rfl := hr.f6 g6
        intro hK
        rw [if_pos (by rfl)]
        try simp only [Act.put, List.setIfInBounds_toArray, List.set_cons_zero, List.set_cons_succ]
        go_simp
        exact hK.out _ _ (fun j => if j = 7 then true else ℓ j) ⟨x17, x18, x19, x20, x21, .slice (some ⟨bb, bo, none⟩) n cb, .int .i64 (i : Int), .pointer (some ⟨bb, bo + i, none⟩), x25, x26, x27, (by simp only [Act.put, List.setIfInBounds_toArray, List.set_cons_zero, List.set_cons_succ]), ⟨hr.gb, hr.f0, hr.f1, hr.f2, hr.f3, hr.f4, hr.f5, hr.f6, (fun _ => rfl), hr.f8, hr.f9, hr.f10⟩⟩ (if_pos rfl) (fun j hj => if_neg hj)
      · obtain rfl := Option.some.inj ho
        have g7 : ℓ 7 = true := hdep { on := 7, ground := Ground.data } (by simp) rfl
        clear hdep ho
        have gb : Hid (Below wr.heap.size wr w') := hr.gb
        revert hK
        obtain rfl := hr.f7 g7
        intro hK
        have q0 := HB.out _ hr.gb
        rw [if_pos (by rfl)]
        try simp only [Act.put, List.setIfInBounds_toArray, List.set_cons_zero, List.set_cons_succ]
        go_simp
        exact hK.out _ _ (fun j => if j = 8 then true else ℓ j) ⟨x17, x18, x19, x20, x21, x22, x23, .pointer (some ⟨bb, bo + i, none⟩), .slice (some ⟨r2, p2, none⟩) len k2, x26, x27, (by simp only [Act.put, List.setIfInBounds_toArray, List.set_cons_zero, List.set_cons_succ]), ⟨hr.gb, hr.f0, hr.f1, hr.f2, hr.f3, hr.f4, hr.f5, hr.f6, hr.f7, (fun _ => rfl), hr.f9, hr.f10⟩⟩ (if_pos rfl) (fun j hj => if_neg hj)
      · obtain rfl := Option.some.inj ho
        have g8 : ℓ 8 = true := hdep { on := 8, ground := Ground.data } (by simp) rfl
        clear hdep ho
        have gb : Hid (Below wr.heap.size wr w') := hr.gb
        revert hK
        obtain rfl := hr.f8 g8
        intro hK
        have hcv := HCV2.out _ hr.gb
        rw [if_pos (by rfl)]
        try simp only [Act.put, List.setIfInBounds_toArray, List.set_cons_zero, List.set_cons_succ]
        go_simp
        exact hK.out _ _ (fun j => if j = 9 then true else ℓ j) ⟨x17, x18, x19, x20, x21, x22, x23, x24, .slice (some ⟨r2, p2, none⟩) len k2, .string (strOfNums row), x27, (by simp only [Act.put, List.setIfInBounds_toArray, List.set_cons_zero, List.set_cons_succ]), ⟨hr.gb, hr.f0, hr.f1, hr.f2, hr.f3, hr.f4, hr.f5, hr.f6, hr.f7, hr.f8, (fun _ => rfl), hr.f10⟩⟩ (if_pos rfl) (fun j hj => if_neg hj)
      · obtain rfl := Option.some.inj ho
        have g4 : ℓ 4 = true := hdep { on := 4, ground := Ground.data } (by simp) rfl
        have g9 : ℓ 9 = true := hdep { on := 9, ground := Ground.data } (by simp) rfl
        clear hdep ho
        have gb : Hid (Below wr.heap.size wr w') := hr.gb
        revert hK
        obtain rfl := hr.f4 g4
        obtain rfl := hr.f9 g9
        intro hK
        rw [if_pos (by rfl)]
        try simp only [Act.put, List.setIfInBounds_toArray, List.set_cons_zero, List.set_cons_succ]
        go_simp
        exact hK.out _ _ (fun j => if j = 10 then true else ℓ j) ⟨x17, x18, x19, x20, .string (strOfNums row), x22, x23, x24, x25, .string (strOfNums row), .bool false, (by simp only [Act.put, List.setIfInBounds_toArray, List.set_cons_zero, List.set_cons_succ]), ⟨hr.gb, hr.f0, hr.f1, hr.f2, hr.f3, hr.f4, hr.f5, hr.f6, hr.f7, hr.f8, hr.f9, (fun _ => rfl)⟩⟩ (if_pos rfl) (fun j hj => if_neg hj)
    · rintro a' w' ℓ ℓ' hℓ hI
      rw [← show ℓ = ℓ' from funext hℓ]
      exact hI
set_option maxRecDepth 20000 in
set_option maxHeartbeats 16000000 in
theorem poke_law (a : Option Addr) (n0 cap : Nat) (z0 : List Int) (w : World) (hl : z0.length = n0) (hs : Seg .u8 w a z0) (hb : ∀ z ∈ z0, (Lit.int .u8 z).wf = true) (hn0 : n0 ≤ 1048576) :
    Calls Try.prog 3 #[.slice a n0 cap] w fun e w' => e = .returned (.bool true) ∧ Below w.heap.size w w' := by
  have HD : Hid (Calls Try.prog 5 #[.slice a n0 cap] w (DPP w)) := draw_poke w a z0 cap n0 hs hb hl hn0
  have HG : Hid (Calls Try.prog 4 #[.slice a n0 cap] w fun e w' => e = .returned (.bool false) ∧ w' = w) := big_no a n0 cap w hn0
  clear hs hb hl
  go_enter Try.func3, Try.ntmps3
  go_wp2_with fail
  refine Calls.mono HG.out ?_
  rintro u w0 ⟨rfl, rfl⟩
  clear HG
  go_wp2_with fail
  refine Calls.mono HD.out ?_
  rintro u w1 ⟨G, xs, ra, ma, rl, rc, n, mc, pc, rs, D, ad, sz, x, rfl, hb1, hs1, hg1, hgt, had, hx⟩
  clear HD
  obtain ⟨P4, hP4⟩ : ∃ p, w1.heap.size = p := ⟨_, rfl⟩
  have hal : Below w1.heap.size w1 (w1.alloc (.cells #[.slice ra rl rc, .int .u32 pc, .slice ma n mc] 29)) := (Below.refl _ _).alloc (Nat.le_refl _) _
  have HB1 : Hid (Below w0.heap.size w0 (w1.alloc (.cells #[.slice ra rl rc, .int .u32 pc, .slice ma n mc] 29))) := hb1.trans (hal.mono hb1.size)
  have HS1 : Hid (ASeg (w1.alloc (.cells #[.slice ra rl rc, .int .u32 pc, .slice ma n mc] 29)) (some ⟨G, 0, none⟩) xs) := hs1.below hal
  have HG1 : Hid (XGSeg (w1.alloc (.cells #[.slice ra rl rc, .int .u32 pc, .slice ma n mc] 29)) ra ma rs n D) := hg1.below hal
  have HK1 : Hid (Bk (w1.alloc (.cells #[.slice ra rl rc, .int .u32 pc, .slice ma n mc] 29)) P4 #[.slice ra rl rc, .int .u32 pc, .slice ma n mc]) := Bk.new _ _ _ _ hP4.symm
  have HGT : Hid (GT xs rl rc n mc rs D) := hgt
  have HAD : Hid ((0 ≤ ad ∧ ad < 4294967296) ∧ (0 ≤ x ∧ x ≤ 4294967295)) := ⟨had, hx⟩
  have had0 := had.1
  have had1 := had.2
  have hx0 := hx.1
  have hx1 := hx.2
  clear hb1 hs1 hg1 hgt had hx hal
  go_wp2_with fail
  revert HB1 HS1 HG1 HK1
  generalize (w1.alloc (.cells #[.slice ra rl rc, .int .u32 pc, .slice ma n mc] 29)) = v1
  try rw [hP4]
  clear hP4
  intro HB1 HS1 HG1 HK1
  obtain ⟨q, hq⟩ := told (GOk xs rs n D)
  refine Calls.mono (spec_gok _ ra ma 2 2 rl rc n mc pc xs rs D q v1 HS1.out HGT.out.fit HGT.out.xl (by omega) (by omega) HG1.out HGT.out.gl hq) ?_
  rintro u w2 ⟨rfl, hb2⟩
  have HB2 : Hid (Below w0.heap.size w0 w2) := HB1.out.trans (hb2.mono HB1.out.size)
  have HS2 : Hid (ASeg w2 (some ⟨G, 0, none⟩) xs) := HS1.out.below hb2
  have HG2 : Hid (XGSeg w2 ra ma rs n D) := HG1.out.below hb2
  have HK2 : Hid (Bk w2 P4 #[.slice ra rl rc, .int .u32 pc, .slice ma n mc]) := HK1.out.below hb2
  clear hb2 HB1 HS1 HG1 HK1
  cases q
  · clear hq
    go_wp2
    go_ret
    exact ⟨rfl, HB2.out⟩
  have HOK : Hid (GOk xs rs n D) := hq.1 rfl
  clear hq
  have hn2 : n = 2 := HOK.out.2.2.2.1.trans HGT.out.xl
  subst hn2
  by_cases hsz : sz = 1 ∨ sz = 4
  rotate_left
  · have h1 : (sz != 1) = true := by simp; omega
    have h4 : (sz != 4) = true := by simp; omega
    clear hsz
    go_wp2
    go_ret
    exact ⟨rfl, HB2.out⟩
  have HSZ : Hid (sz = 1 ∨ sz = 4) := hsz
  have hs0 : 1 ≤ sz := by omega
  have hs4 : sz ≤ 4 := by omega
  obtain ⟨r, D1, hpk, hln⟩ := PkP.ex HOK.out ad sz x
  have HPK : Hid (PkP xs 2 D ad sz x r D1) := hpk
  have HLN : Hid (∀ i, (D1 i).length = (D i).length) := hln
  have HXL : Hid (xs.length = 2) := HGT.out.xl
  have HRD : Hid (∃ v, RdP xs 2 D ad sz 2 v r) := by obtain ⟨v, h, _⟩ := hpk; exact ⟨v, h⟩
  have HDL : Hid (∀ i, i < 2 → (D i).length ≤ 128) := HGT.out.dl
  have HPO : Hid (∀ i, i < 2 → 0 < (D i).length) := fun i hi => by
    have h1 := HOK.out.2.2.2.2 i hi
    have h2 := (HOK.out.1.2 i (by rw [HXL.out]; exact hi)).1.2.1
    omega
  have HBR : Hid (∀ i, i < 2 → 0 ≤ (xs.getD i wn0).1 ∧ (xs.getD i wn0).1 ≤ 2048) := fun i hi => by
    obtain ⟨h1, h2, h3, h4, h5, _⟩ := (HOK.out.1.2 i (by rw [HXL.out]; exact hi)).1
    exact ⟨h1, by omega⟩
  clear hpk hln
  have hzz : ((sz != 1) && (sz != 4)) = false := by rcases hsz with rfl | rfl <;> rfl
  rcases hsz with rfl | rfl
  · go_wp2_with fail
    refine Calls.mono (by obtain ⟨v, h⟩ := HRD.out; exact fault_s HOK.out h (some ⟨G, 0, none⟩) 2 w2 HS2.out HAD.out.1) ?_
    rintro u w3 ⟨rfl, hb3⟩
    have HB3 : Hid (Below w0.heap.size w0 w3) := HB2.out.trans (hb3.mono HB2.out.size)
    have HS3 : Hid (ASeg w3 (some ⟨G, 0, none⟩) xs) := HS2.out.below hb3
    have HG3 : Hid (XGSeg w3 ra ma rs 2 D) := HG2.out.below hb3
    have HK3 : Hid (Bk w3 P4 #[.slice ra rl rc, .int .u32 pc, .slice ma 2 mc]) := HK2.out.below hb3
    clear hb3 HB2 HS2 HG2 HK2
    have c0 := HK3.out.cell 0 _ rfl
    have c1 := HK3.out.cell 1 _ rfl
    have c2 := HK3.out.cell 2 _ rfl
    go_wp2_with fail
    refine Calls.mono (impl_poke _ ra ma 2 2 rl rc 2 mc pc ad 1 x r xs rs D D1 w3 HS3.out HGT.out.fit HXL.out (by omega) (by omega) HG3.out HGT.out.gl (by have := HGT.out.r16; omega) (by omega) (by have := HGT.out.tot; omega) HOK.out HPK.out HAD.out.1 hx0 hx1) ?_
    rintro u w4 ⟨ra', ma', rc', mc', m, rfl, hb4, ho4, _, _⟩
    clear c0 c1 c2
    obtain ⟨P9, hP9⟩ : ∃ p, w4.heap.size = p := ⟨_, rfl⟩
    have hal : Below w4.heap.size w4 (w4.alloc (.cells #[.slice ra' rl rc', .int .u32 pc, .slice ma' 2 mc'] 29)) := (Below.refl _ _).alloc (Nat.le_refl _) _
    have hx4 : Below w3.heap.size w3 (w4.alloc (.cells #[.slice ra' rl rc', .int .u32 pc, .slice ma' 2 mc'] 29)) := hb4.trans (hal.mono hb4.size)
    have HB4 : Hid (Below w0.heap.size w0 (w4.alloc (.cells #[.slice ra' rl rc', .int .u32 pc, .slice ma' 2 mc'] 29))) := HB3.out.trans (hx4.mono HB3.out.size)
    have HS4 : Hid (ASeg (w4.alloc (.cells #[.slice ra' rl rc', .int .u32 pc, .slice ma' 2 mc'] 29)) (some ⟨G, 0, none⟩) xs) := HS3.out.below hx4
    have HG4 : Hid (XGSeg (w4.alloc (.cells #[.slice ra' rl rc', .int .u32 pc, .slice ma' 2 mc'] 29)) ra ma rs 2 D) := HG3.out.below hx4
    have HK4 : Hid (Bk (w4.alloc (.cells #[.slice ra' rl rc', .int .u32 pc, .slice ma' 2 mc'] 29)) P4 #[.slice ra rl rc, .int .u32 pc, .slice ma 2 mc]) := HK3.out.below hx4
    have HN4 : Hid (XGSeg (w4.alloc (.cells #[.slice ra' rl rc', .int .u32 pc, .slice ma' 2 mc'] 29)) ra' ma' rs 2 D1) := ho4.seg.below hal
    have HM4 : Hid (Bk (w4.alloc (.cells #[.slice ra' rl rc', .int .u32 pc, .slice ma' 2 mc'] 29)) P9 #[.slice ra' rl rc', .int .u32 pc, .slice ma' 2 mc']) := Bk.new _ _ _ _ hP9.symm
    clear hb4 ho4 hal hx4 HB3 HS3 HG3 HK3
    have hrr : (r != r) = false := by simp
    go_wp2_with fail
    revert HB4 HS4 HG4 HK4 HN4 HM4
    generalize (w4.alloc (.cells #[.slice ra' rl rc', .int .u32 pc, .slice ma' 2 mc'] 29)) = v4
    try rw [hP9]
    clear hP9
    intro HB4 HS4 HG4 HK4 HN4 HM4
    refine Calls.mono (by obtain ⟨v, h⟩ := HRD.out; exact fault_i HOK.out h (some ⟨G, 0, none⟩) 2 v4 HS4.out HGT.out.fit (by omega) HAD.out.1) ?_
    rintro u w5 ⟨rfl, hb5⟩
    have HB5 : Hid (Below w0.heap.size w0 w5) := HB4.out.trans (hb5.mono HB4.out.size)
    have HS5 : Hid (ASeg w5 (some ⟨G, 0, none⟩) xs) := HS4.out.below hb5
    have HG5 : Hid (XGSeg w5 ra ma rs 2 D) := HG4.out.below hb5
    have HK5 : Hid (Bk w5 P4 #[.slice ra rl rc, .int .u32 pc, .slice ma 2 mc]) := HK4.out.below hb5
    have HN5 : Hid (XGSeg w5 ra' ma' rs 2 D1) := HN4.out.below hb5
    have HM5 : Hid (Bk w5 P9 #[.slice ra' rl rc', .int .u32 pc, .slice ma' 2 mc']) := HM4.out.below hb5
    clear hb5 HB4 HS4 HG4 HK4 HN4 HM4
    by_cases hr0 : r = 0
    rotate_left
    · have hr1 : (r != 0) = true := by simpa using hr0
      have HDD : Hid (D1 = D) := by
        obtain ⟨_, _, h⟩ := HPK.out
        rcases h with ⟨_, h⟩ | ⟨h, _⟩
        · exact h
        · exact absurd h hr0
      have c1 := HK5.out.cell 1 _ rfl
      have c2 := HK5.out.cell 2 _ rfl
      have e1 := HM5.out.cell 1 _ rfl
      have e2 := HM5.out.cell 2 _ rfl
      have hpp : (pc == pc) = true := by simp
      clear hr0
      go_wp2_with fail
      refine Calls.mono (same_bytes ma' ma mc' mc 2 D w5 (by have := HN5.out.2; rw [HDD.out] at this; exact this) HG5.out.2 (by omega) HPO.out) ?_
      rintro u w6 ⟨rfl, hb6⟩
      have HB6 : Hid (Below w0.heap.size w0 w6) := HB5.out.trans (hb6.mono HB5.out.size)
      have c1' := (HK5.out.below hb6).cell 1 _ rfl
      have e1' := (HM5.out.below hb6).cell 1 _ rfl
      clear hb6 c1 c2 e1 e2 HB5 HS5 HG5 HK5 HN5 HM5
      go_wp2
      go_ret
      exact ⟨rfl, HB6.out⟩
    subst hr0
    have HOK1 : Hid (GOk xs rs 2 D1) := GOk.other HOK.out HLN.out
    obtain ⟨v, r', hrd⟩ := RdP.ex HOK1.out ad 1 1
    have HR1 : Hid (RdP xs 2 D1 ad 1 1 v r') := hrd
    have HB8 : Hid (∀ i, i < 2 → ∀ z ∈ D1 i, (Lit.int .u8 z).wf = true) := fun i hi => by
      obtain ⟨_, _, h⟩ := HPK.out
      rcases h with ⟨h, _⟩ | ⟨_, K, fr, S, bs, hat, hin, h⟩
      · exact absurd rfl h
      · rw [h]
        unfold putD
        by_cases c : i = K
        · subst c
          rw [if_pos rfl]
          exact putRow_u8 HAD.out.2 (HGT.out.b8 i hi)
        · rw [if_neg c]
          exact HGT.out.b8 i hi
    have HWB : Hid (r' = 0 → v = x % 256) := fun h => by
      subst h
      have := read_back HOK.out HPK.out HR1.out HAD.out.2
      simpa using this
    clear hrd
    have e0 := HM5.out.cell 0 _ rfl
    have e1 := HM5.out.cell 1 _ rfl
    have e2 := HM5.out.cell 2 _ rfl
    go_wp2_with fail
    refine Calls.mono (impl_peek _ ra' ma' 2 2 rl rc' 2 mc' pc ad 1 v r' xs rs D1 true w5 HS5.out HGT.out.fit HXL.out (by omega) (by omega) HN5.out HGT.out.gl ⟨fun _ => HOK1.out, fun _ => rfl⟩ (.inr ⟨rfl, HR1.out⟩) HB8.out HAD.out.1) ?_
    rintro u w6 ⟨rfl, hb6⟩
    have HB6 : Hid (Below w0.heap.size w0 w6) := HB5.out.trans (hb6.mono HB5.out.size)
    have HS6 : Hid (ASeg w6 (some ⟨G, 0, none⟩) xs) := HS5.out.below hb6
    have HG6 : Hid (XGSeg w6 ra ma rs 2 D) := HG5.out.below hb6
    have HK6 : Hid (Bk w6 P4 #[.slice ra rl rc, .int .u32 pc, .slice ma 2 mc]) := HK5.out.below hb6
    have HN6 : Hid (XGSeg w6 ra' ma' rs 2 D1) := HN5.out.below hb6
    have HM6 : Hid (Bk w6 P9 #[.slice ra' rl rc', .int .u32 pc, .slice ma' 2 mc']) := HM5.out.below hb6
    clear hb6 HB5 HS5 HG5 HK5 HN5 HM5 e0 e1 e2 HB8
    go_wp2_with fail
    refine Calls.mono (fault_s HOK1.out HR1.out (some ⟨G, 0, none⟩) 2 w6 HS6.out HAD.out.1) ?_
    rintro u w7 ⟨rfl, hb7⟩
    have HB7 : Hid (Below w0.heap.size w0 w7) := HB6.out.trans (hb7.mono HB6.out.size)
    have HS7 : Hid (ASeg w7 (some ⟨G, 0, none⟩) xs) := HS6.out.below hb7
    have HG7 : Hid (XGSeg w7 ra ma rs 2 D) := HG6.out.below hb7
    have HK7 : Hid (Bk w7 P4 #[.slice ra rl rc, .int .u32 pc, .slice ma 2 mc]) := HK6.out.below hb7
    have HN7 : Hid (XGSeg w7 ra' ma' rs 2 D1) := HN6.out.below hb7
    have HM7 : Hid (Bk w7 P9 #[.slice ra' rl rc', .int .u32 pc, .slice ma' 2 mc']) := HM6.out.below hb7
    clear hb7 HB6 HS6 HG6 HK6 HN6 HM6 HR1 HOK1
    have m4 := HK7.out.cell 2 _ rfl
    have m9 := HM7.out.cell 2 _ rfl
    by_cases hr7 : r' = 0
    · have hv := HWB.out hr7
      subst hr7
      have hvv : ((v : Int) != (x % 256 : Int)) = false := by rw [hv]; simp
      clear hv
      clear HWB
      go_wp2
      go_loopw [14] (fun i wr => ∃ j : Nat, j ≤ 2 ∧ i = .int .i64 j ∧ Hid (Below w7.heap.size w7 wr)) (fun i _ => 2 - (intOf i).toNat)
      case atStart => exact ⟨0, by omega, rfl, Below.refl _ _⟩
      case round =>
        obtain ⟨i, hi2, rfl, HBW⟩ := hrel
        by_cases hin : i < 2
        rotate_left
        · have hin' : ¬ ((i : Int) < 2) := by omega
          go_wp2
          go_ret
          exact ⟨rfl, HB7.out.trans (HBW.out.mono HB7.out.size)⟩
        have hin' : (i : Int) < 2 := by omega
        have HSW : Hid (ASeg wr (some ⟨G, 0, none⟩) xs) := HS7.out.below HBW.out
        have HGW : Hid (XGSeg wr ra ma rs 2 D) := HG7.out.below HBW.out
        have HNW : Hid (XGSeg wr ra' ma' rs 2 D1) := HN7.out.below HBW.out
        have HKW : Hid (Bk wr P4 #[.slice ra rl rc, .int .u32 pc, .slice ma 2 mc]) := HK7.out.below HBW.out
        have HMW : Hid (Bk wr P9 #[.slice ra' rl rc', .int .u32 pc, .slice ma' 2 mc']) := HM7.out.below HBW.out
        obtain ⟨b1, o1, rfl, hb1, hc1⟩ := HGW.out.2 (by omega)
        obtain ⟨b2, o2, rfl, hb2, hc2⟩ := HNW.out.2 (by omega)
        obtain ⟨a1, k1, e1, s1, _⟩ := hc1 i hin
        obtain ⟨a2, k2, e2, s2, _⟩ := hc2 i hin
        obtain ⟨r1, p1, rfl, l1, d1⟩ := s1 (HPO.out i hin)
        obtain ⟨r2, p2, rfl, l2, d2⟩ := s2 (by rw [HLN.out i]; exact HPO.out i hin)
        obtain ⟨row, hrow⟩ : ∃ r, r = D i := ⟨_, rfl⟩
        obtain ⟨row2, hrow2⟩ : ∃ r, r = D1 i := ⟨_, rfl⟩
        have hll : row2.length = row.length := by rw [hrow, hrow2]; exact HLN.out i
        rw [← hrow] at e1 d1
        rw [← hrow2] at e2 d2
        obtain ⟨len, hlen⟩ : ∃ l, row.length = l := ⟨_, rfl⟩
        rw [hll] at e2 d2
        rw [hlen] at e1 e2 d1 d2
        obtain ⟨Gb, Go, eG, hgl, g0, _, _⟩ := HSW.out.at i (by rw [HXL.out]; exact hin)
        injection eG with eG
        injection eG with eG1 eG2
        subst eG1 eG2
        rw [Nat.zero_add] at g0
        obtain ⟨bs, hbs⟩ : ∃ b, b = (xs.getD i wn0).1 := ⟨_, rfl⟩
        rw [← hbs] at g0
        have hbr : 0 ≤ bs ∧ bs ≤ 2048 := by rw [hbs]; exact HBR.out i hin
        have HST : Hid (∀ k, k < len → (bs + (k : Int) < ad ∨ ad + 1 ≤ bs + (k : Int)) → row2.getD k 0 = row.getD k 0) := fun k hk ho => by
          rw [hrow, hrow2]
          exact PkP.stays HPK.out (by rw [← hbs]; exact ho)
        have hl128 : len ≤ 128 := by rw [← hlen, hrow]; exact HDL.out i hin
        have m4 := HKW.out.cell 2 _ rfl
        have m9 := HMW.out.cell 2 _ rfl
        have hnn : ((len : Int) != (len : Int)) = false := by simp
        have HWW : Hid (∀ X, Below wr.heap.size wr X → X.cell? ⟨P4, 2, none⟩ = some (.slice (some ⟨b1, o1, none⟩) 2 mc) ∧ X.cell? ⟨P9, 2, none⟩ = some (.slice (some ⟨b2, o2, none⟩) 2 mc') ∧ X.cell? ⟨b1, o1 + i, none⟩ = some (.slice (some ⟨r1, p1, none⟩) len k1) ∧ X.cell? ⟨b2, o2 + i, none⟩ = some (.slice (some ⟨r2, p2, none⟩) len k2) ∧ X.cell? ⟨G, i * 3, none⟩ = some (.int .i64 bs) ∧ (∀ k, k < len → X.cell? ⟨r1, p1 + k, none⟩ = some (.int .u8 (row.getD k 0))) ∧ ∀ k, k < len → X.cell? ⟨r2, p2 + k, none⟩ = some (.int .u8 (row2.getD k 0))) := fun X hX =>
          ⟨(HKW.out.below hX).cell 2 _ rfl, (HMW.out.below hX).cell 2 _ rfl, (hX.cell (p := ⟨b1, o1 + i, none⟩) hb1).trans e1, (hX.cell (p := ⟨b2, o2 + i, none⟩) hb2).trans e2, (hX.cell (p := ⟨G, i * 3, none⟩) hgl).trans g0, fun k hk => (hX.cell (p := ⟨r1, p1 + k, none⟩) l1).trans (d1 k hk), fun k hk => (hX.cell (p := ⟨r2, p2 + k, none⟩) l2).trans (d2 k hk)⟩
        have hbr0 := hbr.1
        have hbr1 := hbr.2
        clear hc1 hc2 s1 s2 HSW HGW HNW hrow hrow2 hll hlen hbs hgl hbr l1 l2 d1 d2 g0 hb1 hb2 HKW HMW
        go_wp2
        go_quiet (fail)
        go_wp2
        go_loopw [15] (fun k wq => ∃ j : Nat, j ≤ len ∧ k = .int .i64 j ∧ Hid (Below wr.heap.size wr wq)) (fun k _ => len - (intOf k).toNat)
        case atStart => exact ⟨0, by omega, rfl, by first | exact Below.refl _ _ | exact (Below.refl _ _).drew | exact below_drewN (Below.refl _ _) _⟩
        case round =>
          rename World => wq
          obtain ⟨k, hk, rfl, HBQ⟩ := hrel
          obtain ⟨f1, f2, f3, f4, f5, f6, f7⟩ := HWW.out _ HBQ.out
          clear m4 m9 e1 e2
          by_cases hkl : k < len
          rotate_left
          · have hkl' : ¬ ((k : Int) < (len : Int)) := by omega
            clear f6 f7
            go_wp2
            go_roundw
            case rel => first | exact ⟨i + 1, by omega, by go_num, HBW.out.trans (HBQ.out.mono HBW.out.size)⟩ | ((repeat (refine Exists.intro _ ?_)); exact ⟨⟨i + 1, by omega, by go_num, HBW.out.trans (HBQ.out.mono HBW.out.size)⟩, rfl⟩)
            case measure => simp [intOf]; omega
          have hkl' : (k : Int) < (len : Int) := by omega
          have g6 := f6 k hkl
          have g7 := f7 k hkl
          clear f6 f7
          have hwk : IntKind.i64.wrap (bs + (k : Int)) = bs + (k : Int) := wrap_s (by omega)
          have hwa : IntKind.i64.wrap ad = ad := by rw [IntKind.wrap_i64]; omega
          have hwb : IntKind.i64.wrap (ad + 1) = ad + 1 := by rw [IntKind.wrap_i64]; omega
          have hst := HST.out k hkl
          generalize row.getD k 0 = z1 at g6 hst
          generalize row2.getD k 0 = z2 at g7 hst
          by_cases q1 : bs + (k : Int) < ad
          · obtain rfl := hst (.inl q1)
            have hzz2 : (z2 != z2) = false := by simp
            clear hst
            go_wp2
            go_quiet (fail)
            go_wp2
            go_roundw
            case rel => first | exact ⟨k + 1, by omega, by go_num, below_drewN HBQ.out _⟩ | exact ⟨k + 1, by omega, by go_num, HBQ.out.drew⟩ | ((repeat (refine Exists.intro _ ?_)); first | exact ⟨⟨k + 1, by omega, by go_num, below_drewN HBQ.out _⟩, rfl⟩ | exact ⟨⟨k + 1, by omega, by go_num, HBQ.out.drew⟩, rfl⟩)
            case measure => simp [intOf]; omega
          · by_cases q2 : ad + 1 ≤ bs + (k : Int)
            · obtain rfl := hst (.inr q2)
              have hzz2 : (z2 != z2) = false := by simp
              clear hst
              go_wp2
              go_quiet (fail)
              go_wp2
              go_roundw
              case rel => first | exact ⟨k + 1, by omega, by go_num, below_drewN HBQ.out _⟩ | exact ⟨k + 1, by omega, by go_num, HBQ.out.drew⟩ | ((repeat (refine Exists.intro _ ?_)); first | exact ⟨⟨k + 1, by omega, by go_num, below_drewN HBQ.out _⟩, rfl⟩ | exact ⟨⟨k + 1, by omega, by go_num, HBQ.out.drew⟩, rfl⟩)
              case measure => simp [intOf]; omega
            · have q3 : decide (ad + 1 ≤ bs + (k : Int)) = false := decide_eq_false q2
              have q4 : bs + (k : Int) < ad + 1 := by omega
              have q5 : ¬ (bs + (k : Int) ≥ ad + 1) := q2
              have q6 : decide (bs + (k : Int) < ad) = false := decide_eq_false q1
              clear hst
              go_wp2
              go_quiet (fail)
              go_wp2
              go_roundw
              case rel => first | exact ⟨k + 1, by omega, by go_num, below_drewN HBQ.out _⟩ | exact ⟨k + 1, by omega, by go_num, HBQ.out.drew⟩ | ((repeat (refine Exists.intro _ ?_)); first | exact ⟨⟨k + 1, by omega, by go_num, below_drewN HBQ.out _⟩, rfl⟩ | exact ⟨⟨k + 1, by omega, by go_num, HBQ.out.drew⟩, rfl⟩)
              case measure => simp [intOf]; omega
    · have hr8 : (r' == 0) = false := by simpa using hr7
      clear hr7
      clear HWB
      go_wp2
      go_loopw [14] (fun i wr => ∃ j : Nat, j ≤ 2 ∧ i = .int .i64 j ∧ Hid (Below w7.heap.size w7 wr)) (fun i _ => 2 - (intOf i).toNat)
      case atStart => exact ⟨0, by omega, rfl, Below.refl _ _⟩
      case round =>
        obtain ⟨i, hi2, rfl, HBW⟩ := hrel
        by_cases hin : i < 2
        rotate_left
        · have hin' : ¬ ((i : Int) < 2) := by omega
          go_wp2
          go_ret
          exact ⟨rfl, HB7.out.trans (HBW.out.mono HB7.out.size)⟩
        have hin' : (i : Int) < 2 := by omega
        have HSW : Hid (ASeg wr (some ⟨G, 0, none⟩) xs) := HS7.out.below HBW.out
        have HGW : Hid (XGSeg wr ra ma rs 2 D) := HG7.out.below HBW.out
        have HNW : Hid (XGSeg wr ra' ma' rs 2 D1) := HN7.out.below HBW.out
        have HKW : Hid (Bk wr P4 #[.slice ra rl rc, .int .u32 pc, .slice ma 2 mc]) := HK7.out.below HBW.out
        have HMW : Hid (Bk wr P9 #[.slice ra' rl rc', .int .u32 pc, .slice ma' 2 mc']) := HM7.out.below HBW.out
        obtain ⟨b1, o1, rfl, hb1, hc1⟩ := HGW.out.2 (by omega)
        obtain ⟨b2, o2, rfl, hb2, hc2⟩ := HNW.out.2 (by omega)
        obtain ⟨a1, k1, e1, s1, _⟩ := hc1 i hin
        obtain ⟨a2, k2, e2, s2, _⟩ := hc2 i hin
        obtain ⟨r1, p1, rfl, l1, d1⟩ := s1 (HPO.out i hin)
        obtain ⟨r2, p2, rfl, l2, d2⟩ := s2 (by rw [HLN.out i]; exact HPO.out i hin)
        obtain ⟨row, hrow⟩ : ∃ r, r = D i := ⟨_, rfl⟩
        obtain ⟨row2, hrow2⟩ : ∃ r, r = D1 i := ⟨_, rfl⟩
        have hll : row2.length = row.length := by rw [hrow, hrow2]; exact HLN.out i
        rw [← hrow] at e1 d1
        rw [← hrow2] at e2 d2
        obtain ⟨len, hlen⟩ : ∃ l, row.length = l := ⟨_, rfl⟩
        rw [hll] at e2 d2
        rw [hlen] at e1 e2 d1 d2
        obtain ⟨Gb, Go, eG, hgl, g0, _, _⟩ := HSW.out.at i (by rw [HXL.out]; exact hin)
        injection eG with eG
        injection eG with eG1 eG2
        subst eG1 eG2
        rw [Nat.zero_add] at g0
        obtain ⟨bs, hbs⟩ : ∃ b, b = (xs.getD i wn0).1 := ⟨_, rfl⟩
        rw [← hbs] at g0
        have hbr : 0 ≤ bs ∧ bs ≤ 2048 := by rw [hbs]; exact HBR.out i hin
        have HST : Hid (∀ k, k < len → (bs + (k : Int) < ad ∨ ad + 1 ≤ bs + (k : Int)) → row2.getD k 0 = row.getD k 0) := fun k hk ho => by
          rw [hrow, hrow2]
          exact PkP.stays HPK.out (by rw [← hbs]; exact ho)
        have hl128 : len ≤ 128 := by rw [← hlen, hrow]; exact HDL.out i hin
        have m4 := HKW.out.cell 2 _ rfl
        have m9 := HMW.out.cell 2 _ rfl
        have hnn : ((len : Int) != (len : Int)) = false := by simp
        have HWW : Hid (∀ X, Below wr.heap.size wr X → X.cell? ⟨P4, 2, none⟩ = some (.slice (some ⟨b1, o1, none⟩) 2 mc) ∧ X.cell? ⟨P9, 2, none⟩ = some (.slice (some ⟨b2, o2, none⟩) 2 mc') ∧ X.cell? ⟨b1, o1 + i, none⟩ = some (.slice (some ⟨r1, p1, none⟩) len k1) ∧ X.cell? ⟨b2, o2 + i, none⟩ = some (.slice (some ⟨r2, p2, none⟩) len k2) ∧ X.cell? ⟨G, i * 3, none⟩ = some (.int .i64 bs) ∧ (∀ k, k < len → X.cell? ⟨r1, p1 + k, none⟩ = some (.int .u8 (row.getD k 0))) ∧ ∀ k, k < len → X.cell? ⟨r2, p2 + k, none⟩ = some (.int .u8 (row2.getD k 0))) := fun X hX =>
          ⟨(HKW.out.below hX).cell 2 _ rfl, (HMW.out.below hX).cell 2 _ rfl, (hX.cell (p := ⟨b1, o1 + i, none⟩) hb1).trans e1, (hX.cell (p := ⟨b2, o2 + i, none⟩) hb2).trans e2, (hX.cell (p := ⟨G, i * 3, none⟩) hgl).trans g0, fun k hk => (hX.cell (p := ⟨r1, p1 + k, none⟩) l1).trans (d1 k hk), fun k hk => (hX.cell (p := ⟨r2, p2 + k, none⟩) l2).trans (d2 k hk)⟩
        have hbr0 := hbr.1
        have hbr1 := hbr.2
        clear hc1 hc2 s1 s2 HSW HGW HNW hrow hrow2 hll hlen hbs hgl hbr l1 l2 d1 d2 g0 hb1 hb2 HKW HMW
        go_wp2
        go_quiet (fail)
        go_wp2
        go_loopw [15] (fun k wq => ∃ j : Nat, j ≤ len ∧ k = .int .i64 j ∧ Hid (Below wr.heap.size wr wq)) (fun k _ => len - (intOf k).toNat)
        case atStart => exact ⟨0, by omega, rfl, by first | exact Below.refl _ _ | exact (Below.refl _ _).drew | exact below_drewN (Below.refl _ _) _⟩
        case round =>
          rename World => wq
          obtain ⟨k, hk, rfl, HBQ⟩ := hrel
          obtain ⟨f1, f2, f3, f4, f5, f6, f7⟩ := HWW.out _ HBQ.out
          clear m4 m9 e1 e2
          by_cases hkl : k < len
          rotate_left
          · have hkl' : ¬ ((k : Int) < (len : Int)) := by omega
            clear f6 f7
            go_wp2
            go_roundw
            case rel => first | exact ⟨i + 1, by omega, by go_num, HBW.out.trans (HBQ.out.mono HBW.out.size)⟩ | ((repeat (refine Exists.intro _ ?_)); exact ⟨⟨i + 1, by omega, by go_num, HBW.out.trans (HBQ.out.mono HBW.out.size)⟩, rfl⟩)
            case measure => simp [intOf]; omega
          have hkl' : (k : Int) < (len : Int) := by omega
          have g6 := f6 k hkl
          have g7 := f7 k hkl
          clear f6 f7
          have hwk : IntKind.i64.wrap (bs + (k : Int)) = bs + (k : Int) := wrap_s (by omega)
          have hwa : IntKind.i64.wrap ad = ad := by rw [IntKind.wrap_i64]; omega
          have hwb : IntKind.i64.wrap (ad + 1) = ad + 1 := by rw [IntKind.wrap_i64]; omega
          have hst := HST.out k hkl
          generalize row.getD k 0 = z1 at g6 hst
          generalize row2.getD k 0 = z2 at g7 hst
          by_cases q1 : bs + (k : Int) < ad
          · obtain rfl := hst (.inl q1)
            have hzz2 : (z2 != z2) = false := by simp
            clear hst
            go_wp2
            go_quiet (fail)
            go_wp2
            go_roundw
            case rel => first | exact ⟨k + 1, by omega, by go_num, below_drewN HBQ.out _⟩ | exact ⟨k + 1, by omega, by go_num, HBQ.out.drew⟩ | ((repeat (refine Exists.intro _ ?_)); first | exact ⟨⟨k + 1, by omega, by go_num, below_drewN HBQ.out _⟩, rfl⟩ | exact ⟨⟨k + 1, by omega, by go_num, HBQ.out.drew⟩, rfl⟩)
            case measure => simp [intOf]; omega
          · by_cases q2 : ad + 1 ≤ bs + (k : Int)
            · obtain rfl := hst (.inr q2)
              have hzz2 : (z2 != z2) = false := by simp
              clear hst
              go_wp2
              go_quiet (fail)
              go_wp2
              go_roundw
              case rel => first | exact ⟨k + 1, by omega, by go_num, below_drewN HBQ.out _⟩ | exact ⟨k + 1, by omega, by go_num, HBQ.out.drew⟩ | ((repeat (refine Exists.intro _ ?_)); first | exact ⟨⟨k + 1, by omega, by go_num, below_drewN HBQ.out _⟩, rfl⟩ | exact ⟨⟨k + 1, by omega, by go_num, HBQ.out.drew⟩, rfl⟩)
              case measure => simp [intOf]; omega
            · have q3 : decide (ad + 1 ≤ bs + (k : Int)) = false := decide_eq_false q2
              have q4 : bs + (k : Int) < ad + 1 := by omega
              have q5 : ¬ (bs + (k : Int) ≥ ad + 1) := q2
              have q6 : decide (bs + (k : Int) < ad) = false := decide_eq_false q1
              clear hst
              go_wp2
              go_quiet (fail)
              go_wp2
              go_roundw
              case rel => first | exact ⟨k + 1, by omega, by go_num, below_drewN HBQ.out _⟩ | exact ⟨k + 1, by omega, by go_num, HBQ.out.drew⟩ | ((repeat (refine Exists.intro _ ?_)); first | exact ⟨⟨k + 1, by omega, by go_num, below_drewN HBQ.out _⟩, rfl⟩ | exact ⟨⟨k + 1, by omega, by go_num, HBQ.out.drew⟩, rfl⟩)
              case measure => simp [intOf]; omega
  · go_wp2_with fail
    refine Calls.mono (by obtain ⟨v, h⟩ := HRD.out; exact fault_s HOK.out h (some ⟨G, 0, none⟩) 2 w2 HS2.out HAD.out.1) ?_
    rintro u w3 ⟨rfl, hb3⟩
    have HB3 : Hid (Below w0.heap.size w0 w3) := HB2.out.trans (hb3.mono HB2.out.size)
    have HS3 : Hid (ASeg w3 (some ⟨G, 0, none⟩) xs) := HS2.out.below hb3
    have HG3 : Hid (XGSeg w3 ra ma rs 2 D) := HG2.out.below hb3
    have HK3 : Hid (Bk w3 P4 #[.slice ra rl rc, .int .u32 pc, .slice ma 2 mc]) := HK2.out.below hb3
    clear hb3 HB2 HS2 HG2 HK2
    have c0 := HK3.out.cell 0 _ rfl
    have c1 := HK3.out.cell 1 _ rfl
    have c2 := HK3.out.cell 2 _ rfl
    go_wp2_with fail
    refine Calls.mono (impl_poke _ ra ma 2 2 rl rc 2 mc pc ad 4 x r xs rs D D1 w3 HS3.out HGT.out.fit HXL.out (by omega) (by omega) HG3.out HGT.out.gl (by have := HGT.out.r16; omega) (by omega) (by have := HGT.out.tot; omega) HOK.out HPK.out HAD.out.1 hx0 hx1) ?_
    rintro u w4 ⟨ra', ma', rc', mc', m, rfl, hb4, ho4, _, _⟩
    clear c0 c1 c2
    obtain ⟨P9, hP9⟩ : ∃ p, w4.heap.size = p := ⟨_, rfl⟩
    have hal : Below w4.heap.size w4 (w4.alloc (.cells #[.slice ra' rl rc', .int .u32 pc, .slice ma' 2 mc'] 29)) := (Below.refl _ _).alloc (Nat.le_refl _) _
    have hx4 : Below w3.heap.size w3 (w4.alloc (.cells #[.slice ra' rl rc', .int .u32 pc, .slice ma' 2 mc'] 29)) := hb4.trans (hal.mono hb4.size)
    have HB4 : Hid (Below w0.heap.size w0 (w4.alloc (.cells #[.slice ra' rl rc', .int .u32 pc, .slice ma' 2 mc'] 29))) := HB3.out.trans (hx4.mono HB3.out.size)
    have HS4 : Hid (ASeg (w4.alloc (.cells #[.slice ra' rl rc', .int .u32 pc, .slice ma' 2 mc'] 29)) (some ⟨G, 0, none⟩) xs) := HS3.out.below hx4
    have HG4 : Hid (XGSeg (w4.alloc (.cells #[.slice ra' rl rc', .int .u32 pc, .slice ma' 2 mc'] 29)) ra ma rs 2 D) := HG3.out.below hx4
    have HK4 : Hid (Bk (w4.alloc (.cells #[.slice ra' rl rc', .int .u32 pc, .slice ma' 2 mc'] 29)) P4 #[.slice ra rl rc, .int .u32 pc, .slice ma 2 mc]) := HK3.out.below hx4
    have HN4 : Hid (XGSeg (w4.alloc (.cells #[.slice ra' rl rc', .int .u32 pc, .slice ma' 2 mc'] 29)) ra' ma' rs 2 D1) := ho4.seg.below hal
    have HM4 : Hid (Bk (w4.alloc (.cells #[.slice ra' rl rc', .int .u32 pc, .slice ma' 2 mc'] 29)) P9 #[.slice ra' rl rc', .int .u32 pc, .slice ma' 2 mc']) := Bk.new _ _ _ _ hP9.symm
    clear hb4 ho4 hal hx4 HB3 HS3 HG3 HK3
    have hrr : (r != r) = false := by simp
    go_wp2_with fail
    revert HB4 HS4 HG4 HK4 HN4 HM4
    generalize (w4.alloc (.cells #[.slice ra' rl rc', .int .u32 pc, .slice ma' 2 mc'] 29)) = v4
    try rw [hP9]
    clear hP9
    intro HB4 HS4 HG4 HK4 HN4 HM4
    refine Calls.mono (by obtain ⟨v, h⟩ := HRD.out; exact fault_i HOK.out h (some ⟨G, 0, none⟩) 2 v4 HS4.out HGT.out.fit (by omega) HAD.out.1) ?_
    rintro u w5 ⟨rfl, hb5⟩
    have HB5 : Hid (Below w0.heap.size w0 w5) := HB4.out.trans (hb5.mono HB4.out.size)
    have HS5 : Hid (ASeg w5 (some ⟨G, 0, none⟩) xs) := HS4.out.below hb5
    have HG5 : Hid (XGSeg w5 ra ma rs 2 D) := HG4.out.below hb5
    have HK5 : Hid (Bk w5 P4 #[.slice ra rl rc, .int .u32 pc, .slice ma 2 mc]) := HK4.out.below hb5
    have HN5 : Hid (XGSeg w5 ra' ma' rs 2 D1) := HN4.out.below hb5
    have HM5 : Hid (Bk w5 P9 #[.slice ra' rl rc', .int .u32 pc, .slice ma' 2 mc']) := HM4.out.below hb5
    clear hb5 HB4 HS4 HG4 HK4 HN4 HM4
    by_cases hr0 : r = 0
    rotate_left
    · have hr1 : (r != 0) = true := by simpa using hr0
      have HDD : Hid (D1 = D) := by
        obtain ⟨_, _, h⟩ := HPK.out
        rcases h with ⟨_, h⟩ | ⟨h, _⟩
        · exact h
        · exact absurd h hr0
      have c1 := HK5.out.cell 1 _ rfl
      have c2 := HK5.out.cell 2 _ rfl
      have e1 := HM5.out.cell 1 _ rfl
      have e2 := HM5.out.cell 2 _ rfl
      have hpp : (pc == pc) = true := by simp
      clear hr0
      go_wp2_with fail
      refine Calls.mono (same_bytes ma' ma mc' mc 2 D w5 (by have := HN5.out.2; rw [HDD.out] at this; exact this) HG5.out.2 (by omega) HPO.out) ?_
      rintro u w6 ⟨rfl, hb6⟩
      have HB6 : Hid (Below w0.heap.size w0 w6) := HB5.out.trans (hb6.mono HB5.out.size)
      have c1' := (HK5.out.below hb6).cell 1 _ rfl
      have e1' := (HM5.out.below hb6).cell 1 _ rfl
      clear hb6 c1 c2 e1 e2 HB5 HS5 HG5 HK5 HN5 HM5
      go_wp2
      go_ret
      exact ⟨rfl, HB6.out⟩
    subst hr0
    have HOK1 : Hid (GOk xs rs 2 D1) := GOk.other HOK.out HLN.out
    obtain ⟨v, r', hrd⟩ := RdP.ex HOK1.out ad 4 1
    have HR1 : Hid (RdP xs 2 D1 ad 4 1 v r') := hrd
    have HB8 : Hid (∀ i, i < 2 → ∀ z ∈ D1 i, (Lit.int .u8 z).wf = true) := fun i hi => by
      obtain ⟨_, _, h⟩ := HPK.out
      rcases h with ⟨h, _⟩ | ⟨_, K, fr, S, bs, hat, hin, h⟩
      · exact absurd rfl h
      · rw [h]
        unfold putD
        by_cases c : i = K
        · subst c
          rw [if_pos rfl]
          exact putRow_u8 HAD.out.2 (HGT.out.b8 i hi)
        · rw [if_neg c]
          exact HGT.out.b8 i hi
    have HWB : Hid (r' = 0 → v = x) := fun h => by
      subst h
      have := read_back HOK.out HPK.out HR1.out HAD.out.2
      simpa using this
    clear hrd
    have e0 := HM5.out.cell 0 _ rfl
    have e1 := HM5.out.cell 1 _ rfl
    have e2 := HM5.out.cell 2 _ rfl
    go_wp2_with fail
    refine Calls.mono (impl_peek _ ra' ma' 2 2 rl rc' 2 mc' pc ad 4 v r' xs rs D1 true w5 HS5.out HGT.out.fit HXL.out (by omega) (by omega) HN5.out HGT.out.gl ⟨fun _ => HOK1.out, fun _ => rfl⟩ (.inr ⟨rfl, HR1.out⟩) HB8.out HAD.out.1) ?_
    rintro u w6 ⟨rfl, hb6⟩
    have HB6 : Hid (Below w0.heap.size w0 w6) := HB5.out.trans (hb6.mono HB5.out.size)
    have HS6 : Hid (ASeg w6 (some ⟨G, 0, none⟩) xs) := HS5.out.below hb6
    have HG6 : Hid (XGSeg w6 ra ma rs 2 D) := HG5.out.below hb6
    have HK6 : Hid (Bk w6 P4 #[.slice ra rl rc, .int .u32 pc, .slice ma 2 mc]) := HK5.out.below hb6
    have HN6 : Hid (XGSeg w6 ra' ma' rs 2 D1) := HN5.out.below hb6
    have HM6 : Hid (Bk w6 P9 #[.slice ra' rl rc', .int .u32 pc, .slice ma' 2 mc']) := HM5.out.below hb6
    clear hb6 HB5 HS5 HG5 HK5 HN5 HM5 e0 e1 e2 HB8
    go_wp2_with fail
    refine Calls.mono (fault_s HOK1.out HR1.out (some ⟨G, 0, none⟩) 2 w6 HS6.out HAD.out.1) ?_
    rintro u w7 ⟨rfl, hb7⟩
    have HB7 : Hid (Below w0.heap.size w0 w7) := HB6.out.trans (hb7.mono HB6.out.size)
    have HS7 : Hid (ASeg w7 (some ⟨G, 0, none⟩) xs) := HS6.out.below hb7
    have HG7 : Hid (XGSeg w7 ra ma rs 2 D) := HG6.out.below hb7
    have HK7 : Hid (Bk w7 P4 #[.slice ra rl rc, .int .u32 pc, .slice ma 2 mc]) := HK6.out.below hb7
    have HN7 : Hid (XGSeg w7 ra' ma' rs 2 D1) := HN6.out.below hb7
    have HM7 : Hid (Bk w7 P9 #[.slice ra' rl rc', .int .u32 pc, .slice ma' 2 mc']) := HM6.out.below hb7
    clear hb7 HB6 HS6 HG6 HK6 HN6 HM6 HR1 HOK1
    have m4 := HK7.out.cell 2 _ rfl
    have m9 := HM7.out.cell 2 _ rfl
    by_cases hr7 : r' = 0
    · have hv := HWB.out hr7
      subst hr7
      have hvv : ((v : Int) != (x : Int)) = false := by rw [hv]; simp
      clear hv
      clear HWB
      go_wp2
      go_loopw [14] (fun i wr => ∃ j : Nat, j ≤ 2 ∧ i = .int .i64 j ∧ Hid (Below w7.heap.size w7 wr)) (fun i _ => 2 - (intOf i).toNat)
      case atStart => exact ⟨0, by omega, rfl, Below.refl _ _⟩
      case round =>
        obtain ⟨i, hi2, rfl, HBW⟩ := hrel
        by_cases hin : i < 2
        rotate_left
        · have hin' : ¬ ((i : Int) < 2) := by omega
          go_wp2
          go_ret
          exact ⟨rfl, HB7.out.trans (HBW.out.mono HB7.out.size)⟩
        have hin' : (i : Int) < 2 := by omega
        have HSW : Hid (ASeg wr (some ⟨G, 0, none⟩) xs) := HS7.out.below HBW.out
        have HGW : Hid (XGSeg wr ra ma rs 2 D) := HG7.out.below HBW.out
        have HNW : Hid (XGSeg wr ra' ma' rs 2 D1) := HN7.out.below HBW.out
        have HKW : Hid (Bk wr P4 #[.slice ra rl rc, .int .u32 pc, .slice ma 2 mc]) := HK7.out.below HBW.out
        have HMW : Hid (Bk wr P9 #[.slice ra' rl rc', .int .u32 pc, .slice ma' 2 mc']) := HM7.out.below HBW.out
        obtain ⟨b1, o1, rfl, hb1, hc1⟩ := HGW.out.2 (by omega)
        obtain ⟨b2, o2, rfl, hb2, hc2⟩ := HNW.out.2 (by omega)
        obtain ⟨a1, k1, e1, s1, _⟩ := hc1 i hin
        obtain ⟨a2, k2, e2, s2, _⟩ := hc2 i hin
        obtain ⟨r1, p1, rfl, l1, d1⟩ := s1 (HPO.out i hin)
        obtain ⟨r2, p2, rfl, l2, d2⟩ := s2 (by rw [HLN.out i]; exact HPO.out i hin)
        obtain ⟨row, hrow⟩ : ∃ r, r = D i := ⟨_, rfl⟩
        obtain ⟨row2, hrow2⟩ : ∃ r, r = D1 i := ⟨_, rfl⟩
        have hll : row2.length = row.length := by rw [hrow, hrow2]; exact HLN.out i
        rw [← hrow] at e1 d1
        rw [← hrow2] at e2 d2
        obtain ⟨len, hlen⟩ : ∃ l, row.length = l := ⟨_, rfl⟩
        rw [hll] at e2 d2
        rw [hlen] at e1 e2 d1 d2
        obtain ⟨Gb, Go, eG, hgl, g0, _, _⟩ := HSW.out.at i (by rw [HXL.out]; exact hin)
        injection eG with eG
        injection eG with eG1 eG2
        subst eG1 eG2
        rw [Nat.zero_add] at g0
        obtain ⟨bs, hbs⟩ : ∃ b, b = (xs.getD i wn0).1 := ⟨_, rfl⟩
        rw [← hbs] at g0
        have hbr : 0 ≤ bs ∧ bs ≤ 2048 := by rw [hbs]; exact HBR.out i hin
        have HST : Hid (∀ k, k < len → (bs + (k : Int) < ad ∨ ad + 4 ≤ bs + (k : Int)) → row2.getD k 0 = row.getD k 0) := fun k hk ho => by
          rw [hrow, hrow2]
          exact PkP.stays HPK.out (by rw [← hbs]; exact ho)
        have hl128 : len ≤ 128 := by rw [← hlen, hrow]; exact HDL.out i hin
        have m4 := HKW.out.cell 2 _ rfl
        have m9 := HMW.out.cell 2 _ rfl
        have hnn : ((len : Int) != (len : Int)) = false := by simp
        have HWW : Hid (∀ X, Below wr.heap.size wr X → X.cell? ⟨P4, 2, none⟩ = some (.slice (some ⟨b1, o1, none⟩) 2 mc) ∧ X.cell? ⟨P9, 2, none⟩ = some (.slice (some ⟨b2, o2, none⟩) 2 mc') ∧ X.cell? ⟨b1, o1 + i, none⟩ = some (.slice (some ⟨r1, p1, none⟩) len k1) ∧ X.cell? ⟨b2, o2 + i, none⟩ = some (.slice (some ⟨r2, p2, none⟩) len k2) ∧ X.cell? ⟨G, i * 3, none⟩ = some (.int .i64 bs) ∧ (∀ k, k < len → X.cell? ⟨r1, p1 + k, none⟩ = some (.int .u8 (row.getD k 0))) ∧ ∀ k, k < len → X.cell? ⟨r2, p2 + k, none⟩ = some (.int .u8 (row2.getD k 0))) := fun X hX =>
          ⟨(HKW.out.below hX).cell 2 _ rfl, (HMW.out.below hX).cell 2 _ rfl, (hX.cell (p := ⟨b1, o1 + i, none⟩) hb1).trans e1, (hX.cell (p := ⟨b2, o2 + i, none⟩) hb2).trans e2, (hX.cell (p := ⟨G, i * 3, none⟩) hgl).trans g0, fun k hk => (hX.cell (p := ⟨r1, p1 + k, none⟩) l1).trans (d1 k hk), fun k hk => (hX.cell (p := ⟨r2, p2 + k, none⟩) l2).trans (d2 k hk)⟩
        have hbr0 := hbr.1
        have hbr1 := hbr.2
        clear hc1 hc2 s1 s2 HSW HGW HNW hrow hrow2 hll hlen hbs hgl hbr l1 l2 d1 d2 g0 hb1 hb2 HKW HMW
        go_wp2
        go_quiet (fail)
        go_wp2
        go_loopw [15] (fun k wq => ∃ j : Nat, j ≤ len ∧ k = .int .i64 j ∧ Hid (Below wr.heap.size wr wq)) (fun k _ => len - (intOf k).toNat)
        case atStart => exact ⟨0, by omega, rfl, by first | exact Below.refl _ _ | exact (Below.refl _ _).drew | exact below_drewN (Below.refl _ _) _⟩
        case round =>
          rename World => wq
          obtain ⟨k, hk, rfl, HBQ⟩ := hrel
          obtain ⟨f1, f2, f3, f4, f5, f6, f7⟩ := HWW.out _ HBQ.out
          clear m4 m9 e1 e2
          by_cases hkl : k < len
          rotate_left
          · have hkl' : ¬ ((k : Int) < (len : Int)) := by omega
            clear f6 f7
            go_wp2
            go_roundw
            case rel => first | exact ⟨i + 1, by omega, by go_num, HBW.out.trans (HBQ.out.mono HBW.out.size)⟩ | ((repeat (refine Exists.intro _ ?_)); exact ⟨⟨i + 1, by omega, by go_num, HBW.out.trans (HBQ.out.mono HBW.out.size)⟩, rfl⟩)
            case measure => simp [intOf]; omega
          have hkl' : (k : Int) < (len : Int) := by omega
          have g6 := f6 k hkl
          have g7 := f7 k hkl
          clear f6 f7
          have hwk : IntKind.i64.wrap (bs + (k : Int)) = bs + (k : Int) := wrap_s (by omega)
          have hwa : IntKind.i64.wrap ad = ad := by rw [IntKind.wrap_i64]; omega
          have hwb : IntKind.i64.wrap (ad + 4) = ad + 4 := by rw [IntKind.wrap_i64]; omega
          have hst := HST.out k hkl
          generalize row.getD k 0 = z1 at g6 hst
          generalize row2.getD k 0 = z2 at g7 hst
          by_cases q1 : bs + (k : Int) < ad
          · obtain rfl := hst (.inl q1)
            have hzz2 : (z2 != z2) = false := by simp
            clear hst
            go_wp2
            go_quiet (fail)
            go_wp2
            go_roundw
            case rel => first | exact ⟨k + 1, by omega, by go_num, below_drewN HBQ.out _⟩ | exact ⟨k + 1, by omega, by go_num, HBQ.out.drew⟩ | ((repeat (refine Exists.intro _ ?_)); first | exact ⟨⟨k + 1, by omega, by go_num, below_drewN HBQ.out _⟩, rfl⟩ | exact ⟨⟨k + 1, by omega, by go_num, HBQ.out.drew⟩, rfl⟩)
            case measure => simp [intOf]; omega
          · by_cases q2 : ad + 4 ≤ bs + (k : Int)
            · obtain rfl := hst (.inr q2)
              have hzz2 : (z2 != z2) = false := by simp
              clear hst
              go_wp2
              go_quiet (fail)
              go_wp2
              go_roundw
              case rel => first | exact ⟨k + 1, by omega, by go_num, below_drewN HBQ.out _⟩ | exact ⟨k + 1, by omega, by go_num, HBQ.out.drew⟩ | ((repeat (refine Exists.intro _ ?_)); first | exact ⟨⟨k + 1, by omega, by go_num, below_drewN HBQ.out _⟩, rfl⟩ | exact ⟨⟨k + 1, by omega, by go_num, HBQ.out.drew⟩, rfl⟩)
              case measure => simp [intOf]; omega
            · have q3 : decide (ad + 4 ≤ bs + (k : Int)) = false := decide_eq_false q2
              have q4 : bs + (k : Int) < ad + 4 := by omega
              have q5 : ¬ (bs + (k : Int) ≥ ad + 4) := q2
              have q6 : decide (bs + (k : Int) < ad) = false := decide_eq_false q1
              clear hst
              go_wp2
              go_quiet (fail)
              go_wp2
              go_roundw
              case rel => first | exact ⟨k + 1, by omega, by go_num, below_drewN HBQ.out _⟩ | exact ⟨k + 1, by omega, by go_num, HBQ.out.drew⟩ | ((repeat (refine Exists.intro _ ?_)); first | exact ⟨⟨k + 1, by omega, by go_num, below_drewN HBQ.out _⟩, rfl⟩ | exact ⟨⟨k + 1, by omega, by go_num, HBQ.out.drew⟩, rfl⟩)
              case measure => simp [intOf]; omega
    · have hr8 : (r' == 0) = false := by simpa using hr7
      clear hr7
      clear HWB
      go_wp2
      go_loopw [14] (fun i wr => ∃ j : Nat, j ≤ 2 ∧ i = .int .i64 j ∧ Hid (Below w7.heap.size w7 wr)) (fun i _ => 2 - (intOf i).toNat)
      case atStart => exact ⟨0, by omega, rfl, Below.refl _ _⟩
      case round =>
        obtain ⟨i, hi2, rfl, HBW⟩ := hrel
        by_cases hin : i < 2
        rotate_left
        · have hin' : ¬ ((i : Int) < 2) := by omega
          go_wp2
          go_ret
          exact ⟨rfl, HB7.out.trans (HBW.out.mono HB7.out.size)⟩
        have hin' : (i : Int) < 2 := by omega
        have HSW : Hid (ASeg wr (some ⟨G, 0, none⟩) xs) := HS7.out.below HBW.out
        have HGW : Hid (XGSeg wr ra ma rs 2 D) := HG7.out.below HBW.out
        have HNW : Hid (XGSeg wr ra' ma' rs 2 D1) := HN7.out.below HBW.out
        have HKW : Hid (Bk wr P4 #[.slice ra rl rc, .int .u32 pc, .slice ma 2 mc]) := HK7.out.below HBW.out
        have HMW : Hid (Bk wr P9 #[.slice ra' rl rc', .int .u32 pc, .slice ma' 2 mc']) := HM7.out.below HBW.out
        obtain ⟨b1, o1, rfl, hb1, hc1⟩ := HGW.out.2 (by omega)
        obtain ⟨b2, o2, rfl, hb2, hc2⟩ := HNW.out.2 (by omega)
        obtain ⟨a1, k1, e1, s1, _⟩ := hc1 i hin
        obtain ⟨a2, k2, e2, s2, _⟩ := hc2 i hin
        obtain ⟨r1, p1, rfl, l1, d1⟩ := s1 (HPO.out i hin)
        obtain ⟨r2, p2, rfl, l2, d2⟩ := s2 (by rw [HLN.out i]; exact HPO.out i hin)
        obtain ⟨row, hrow⟩ : ∃ r, r = D i := ⟨_, rfl⟩
        obtain ⟨row2, hrow2⟩ : ∃ r, r = D1 i := ⟨_, rfl⟩
        have hll : row2.length = row.length := by rw [hrow, hrow2]; exact HLN.out i
        rw [← hrow] at e1 d1
        rw [← hrow2] at e2 d2
        obtain ⟨len, hlen⟩ : ∃ l, row.length = l := ⟨_, rfl⟩
        rw [hll] at e2 d2
        rw [hlen] at e1 e2 d1 d2
        obtain ⟨Gb, Go, eG, hgl, g0, _, _⟩ := HSW.out.at i (by rw [HXL.out]; exact hin)
        injection eG with eG
        injection eG with eG1 eG2
        subst eG1 eG2
        rw [Nat.zero_add] at g0
        obtain ⟨bs, hbs⟩ : ∃ b, b = (xs.getD i wn0).1 := ⟨_, rfl⟩
        rw [← hbs] at g0
        have hbr : 0 ≤ bs ∧ bs ≤ 2048 := by rw [hbs]; exact HBR.out i hin
        have HST : Hid (∀ k, k < len → (bs + (k : Int) < ad ∨ ad + 4 ≤ bs + (k : Int)) → row2.getD k 0 = row.getD k 0) := fun k hk ho => by
          rw [hrow, hrow2]
          exact PkP.stays HPK.out (by rw [← hbs]; exact ho)
        have hl128 : len ≤ 128 := by rw [← hlen, hrow]; exact HDL.out i hin
        have m4 := HKW.out.cell 2 _ rfl
        have m9 := HMW.out.cell 2 _ rfl
        have hnn : ((len : Int) != (len : Int)) = false := by simp
        have HWW : Hid (∀ X, Below wr.heap.size wr X → X.cell? ⟨P4, 2, none⟩ = some (.slice (some ⟨b1, o1, none⟩) 2 mc) ∧ X.cell? ⟨P9, 2, none⟩ = some (.slice (some ⟨b2, o2, none⟩) 2 mc') ∧ X.cell? ⟨b1, o1 + i, none⟩ = some (.slice (some ⟨r1, p1, none⟩) len k1) ∧ X.cell? ⟨b2, o2 + i, none⟩ = some (.slice (some ⟨r2, p2, none⟩) len k2) ∧ X.cell? ⟨G, i * 3, none⟩ = some (.int .i64 bs) ∧ (∀ k, k < len → X.cell? ⟨r1, p1 + k, none⟩ = some (.int .u8 (row.getD k 0))) ∧ ∀ k, k < len → X.cell? ⟨r2, p2 + k, none⟩ = some (.int .u8 (row2.getD k 0))) := fun X hX =>
          ⟨(HKW.out.below hX).cell 2 _ rfl, (HMW.out.below hX).cell 2 _ rfl, (hX.cell (p := ⟨b1, o1 + i, none⟩) hb1).trans e1, (hX.cell (p := ⟨b2, o2 + i, none⟩) hb2).trans e2, (hX.cell (p := ⟨G, i * 3, none⟩) hgl).trans g0, fun k hk => (hX.cell (p := ⟨r1, p1 + k, none⟩) l1).trans (d1 k hk), fun k hk => (hX.cell (p := ⟨r2, p2 + k, none⟩) l2).trans (d2 k hk)⟩
        have hbr0 := hbr.1
        have hbr1 := hbr.2
        clear hc1 hc2 s1 s2 HSW HGW HNW hrow hrow2 hll hlen hbs hgl hbr l1 l2 d1 d2 g0 hb1 hb2 HKW HMW
        go_wp2
        go_quiet (fail)
        go_wp2
        go_loopw [15] (fun k wq => ∃ j : Nat, j ≤ len ∧ k = .int .i64 j ∧ Hid (Below wr.heap.size wr wq)) (fun k _ => len - (intOf k).toNat)
        case atStart => exact ⟨0, by omega, rfl, by first | exact Below.refl _ _ | exact (Below.refl _ _).drew | exact below_drewN (Below.refl _ _) _⟩
        case round =>
          rename World => wq
          obtain ⟨k, hk, rfl, HBQ⟩ := hrel
          obtain ⟨f1, f2, f3, f4, f5, f6, f7⟩ := HWW.out _ HBQ.out
          clear m4 m9 e1 e2
          by_cases hkl : k < len
          rotate_left
          · have hkl' : ¬ ((k : Int) < (len : Int)) := by omega
            clear f6 f7
            go_wp2
            go_roundw
            case rel => first | exact ⟨i + 1, by omega, by go_num, HBW.out.trans (HBQ.out.mono HBW.out.size)⟩ | ((repeat (refine Exists.intro _ ?_)); exact ⟨⟨i + 1, by omega, by go_num, HBW.out.trans (HBQ.out.mono HBW.out.size)⟩, rfl⟩)
            case measure => simp [intOf]; omega
          have hkl' : (k : Int) < (len : Int) := by omega
          have g6 := f6 k hkl
          have g7 := f7 k hkl
          clear f6 f7
          have hwk : IntKind.i64.wrap (bs + (k : Int)) = bs + (k : Int) := wrap_s (by omega)
          have hwa : IntKind.i64.wrap ad = ad := by rw [IntKind.wrap_i64]; omega
          have hwb : IntKind.i64.wrap (ad + 4) = ad + 4 := by rw [IntKind.wrap_i64]; omega
          have hst := HST.out k hkl
          generalize row.getD k 0 = z1 at g6 hst
          generalize row2.getD k 0 = z2 at g7 hst
          by_cases q1 : bs + (k : Int) < ad
          · obtain rfl := hst (.inl q1)
            have hzz2 : (z2 != z2) = false := by simp
            clear hst
            go_wp2
            go_quiet (fail)
            go_wp2
            go_roundw
            case rel => first | exact ⟨k + 1, by omega, by go_num, below_drewN HBQ.out _⟩ | exact ⟨k + 1, by omega, by go_num, HBQ.out.drew⟩ | ((repeat (refine Exists.intro _ ?_)); first | exact ⟨⟨k + 1, by omega, by go_num, below_drewN HBQ.out _⟩, rfl⟩ | exact ⟨⟨k + 1, by omega, by go_num, HBQ.out.drew⟩, rfl⟩)
            case measure => simp [intOf]; omega
          · by_cases q2 : ad + 4 ≤ bs + (k : Int)
            · obtain rfl := hst (.inr q2)
              have hzz2 : (z2 != z2) = false := by simp
              clear hst
              go_wp2
              go_quiet (fail)
              go_wp2
              go_roundw
              case rel => first | exact ⟨k + 1, by omega, by go_num, below_drewN HBQ.out _⟩ | exact ⟨k + 1, by omega, by go_num, HBQ.out.drew⟩ | ((repeat (refine Exists.intro _ ?_)); first | exact ⟨⟨k + 1, by omega, by go_num, below_drewN HBQ.out _⟩, rfl⟩ | exact ⟨⟨k + 1, by omega, by go_num, HBQ.out.drew⟩, rfl⟩)
              case measure => simp [intOf]; omega
            · have q3 : decide (ad + 4 ≤ bs + (k : Int)) = false := decide_eq_false q2
              have q4 : bs + (k : Int) < ad + 4 := by omega
              have q5 : ¬ (bs + (k : Int) ≥ ad + 4) := q2
              have q6 : decide (bs + (k : Int) < ad) = false := decide_eq_false q1
              clear hst
              go_wp2
              go_quiet (fail)
              go_wp2
              go_roundw
              case rel => first | exact ⟨k + 1, by omega, by go_num, below_drewN HBQ.out _⟩ | exact ⟨k + 1, by omega, by go_num, HBQ.out.drew⟩ | ((repeat (refine Exists.intro _ ?_)); first | exact ⟨⟨k + 1, by omega, by go_num, below_drewN HBQ.out _⟩, rfl⟩ | exact ⟨⟨k + 1, by omega, by go_num, HBQ.out.drew⟩, rfl⟩)
              case measure => simp [intOf]; omega
end Iy
end Go.Proofs.Ytanffdedignegaa
namespace Go.Proofs.Ytanffdedignegaa.fnPoke
open Go.ChangeShapes Go.WideShapes Go.ChangeAt Go.RowKit
open Go.ChangeMaps (open_string shut_string)
set_option linter.unusedVariables false

theorem own : ownKnob Try.prog.godebug = none := by kernel_rfl
theorem laidOut : laidOutB Try.prog = true := by kernel_rfl

def IsRow (k : IntKind) (w : World) (a : Option Addr) (len cap : Nat) (zs : List Int) : Prop :=
  (a = none ∧ len = 0 ∧ cap = 0 ∧ zs = []) ∨
  ∃ x, a = some x ∧ len ≤ cap ∧ cap ≤ maxLen ∧ zs.length = cap ∧ (∀ i, i < zs.length → w.cell? (x.add i) = some (.int k (zs.getD i 0))) ∧ ∀ n ∈ zs, (Lit.int k n).wf = true

/-! ### The walk -/
set_option maxRecDepth 100000 in
theorem walk (a0 : Option Addr) (len0 cap0 : Nat) (z0 : List Int) (w : World) (w0 : IsRow .u8 w a0 len0 cap0 z0) :
    Calls Try.prog 3 #[.slice a0 len0 cap0] w fun e w' => e = .returned (.bool true) ∧ Below w.heap.size w w' := by
  obtain ⟨zs, hlen, hs, hw⟩ := seg_of_row w0
  subst hlen
  by_cases hn : zs.length ≤ 1048576
  · exact Iy.poke_law a0 zs.length cap0 zs w rfl hs hw hn
  · clear w0
    go_enter Try.func3, Try.ntmps3
    go_wp2_with fail
    refine (Iy.big_yes _ _ _ _ hn).mono ?_
    rintro e w' ⟨rfl, rfl⟩
    go_wp2
    go_ret
    exact ⟨rfl, Below.refl _ _⟩

/-! ### The row -/
set_option maxRecDepth 100000 in
theorem lifted (os : Os) (started : os.Started) (H : Type) (enc : TypeId × Value → H) :
    ReturnsInHanded {} Try.checked os 3 .any (Rows.fnPokeSpec.pre6 enc Try.prog Try.f3 Rows.fnPokeRow.domain false) (Rows.fnPokeSpec.post enc Try.prog Try.f3 false true false false) := by
  refine returnsInHanded_of_change (C := Try.checked) own started (by kernel_rfl) Try.func3
    (ChangeSpec.witness6 (enc := enc) (C := Try.checked) false ⟨#[], #[.slice none 0 0], []⟩ 8 (by kernel_rfl) (by kernel_rfl) (by kernel_rfl) (by kernel_rfl)) ?_
  intro W base args ds gs before hval0 hW hcnd _
  have hval : ∀ (j : Nat) t v, Try.f3.params[j]? = some t → args[j]? = some v → Value.okWide Try.prog W .any base t v := hval0
  have hW' := hW
  obtain ⟨p, q, hA0, hV, rfl, hfz, hnd⟩ := hW
  have hA : DataW.TrodAll enc Try.prog W 0 (fun _ => true) true Try.f3.params.toList args.toList ds p := hA0
  rw [Try.params3] at hA hval
  obtain ⟨v0, vs0, d0, ds0, p0, q0, hargs, rfl, rfl, h0, r0⟩ := trodAll_cons hA
  obtain ⟨rfl, rfl, rfl⟩ := trodAll_nil r0
  obtain rfl : args = #[v0] := by cases args; simp_all
  obtain ⟨rfl, rfl⟩ := trodVars_none hV
  obtain ⟨a0, len0, cap0, rfl⟩ := okWide_slice Try.underlying22 (hval 0 22 v0 rfl rfl)
  have k0 := h0
  have lt0 : ∀ x ∈ p0, x.block < W.heap.size := by obtain ⟨m, hm⟩ := k0; exact DataW.trod_lt m _ _ _ hm
  obtain ⟨z0, w0⟩ : ∃ zs, IsRow .u8 W a0 len0 cap0 zs := by
    obtain ⟨fuel, hf⟩ := h0
    rcases open_ints Try.underlying22 Try.underlying5 (by kernel_rfl) hf with ⟨hcs, _⟩ | ⟨x, l, c, zs, hcs, _, hl, hm, hz, _, hcell, hwz⟩
    · simp [Value.cells] at hcs
      obtain ⟨rfl, rfl, rfl⟩ := hcs
      exact ⟨[], .inl ⟨rfl, rfl, rfl, rfl⟩⟩
    · simp [Value.cells] at hcs
      obtain ⟨rfl, rfl, rfl⟩ := hcs
      exact ⟨zs, .inr ⟨_, rfl, hl, hm, by simpa using hz, hcell, hwz⟩⟩
  clear hA0 hval0
  refine (walk a0 len0 cap0 z0 W w0).mono fun e W' ⟨he, bel⟩ => ?_
  subst he
  exact ⟨_, rfl, _, _, _, [], _, [], hW', trodAll_mk1 (shut_bool Try.underlying4 _), (trodAll_cons_mk (Below.trod laidOut (by kernel_rfl) (of_decide_eq_true (by kernel_rfl)) k0 bel lt0) trodAll_mk0), rfl, bel.frame _, fun h => by cases h⟩

theorem over : Rows.fnPokeRow.holds Try.pinned (OpenSpec.ofChange Rows.fnPokeSpec) :=
  OpenClaim.holds_of_wide 3 Try.f3 rfl rfl rfl rfl rfl rfl rfl ⟨rfl, rfl, rfl, rfl, rfl⟩ rfl rfl rfl rfl rfl (by kernel_rfl) Try.func3 (by kernel_rfl)
    (of_decide_eq_true (by kernel_rfl)) (by unfold Func.isWrapper; first | (rw [if_pos (by decide +kernel)]; kernel_rfl) | (rw [if_neg (by decide +kernel)]; exact ⟨rfl, rfl⟩))
    (fun os started H enc _ => lifted os started H enc)

end Go.Proofs.Ytanffdedignegaa.fnPoke
namespace Go.Proofs.Ytanffdedignegaa
theorem FnPoke_holds : Rows.FnPokeSaid := fnPoke.over
end Go.Proofs.Ytanffdedignegaa
