/-
  What the program's own ReadLine returns, at every line. Conditions: the tables of forms and names lie in memory as their texts lay them, and the library's own variable holds a number; the line is at most 1048576 bytes long.
-/
import Derived.Test.YtdjapcfejmhjnaaGreatDoorRdx
namespace Go.Proofs.YtdjapcfejmhjnaaGreatDoor
open Go.ChangeShapes Go.WideShapes Go.ChangeAt Go.RowKit Go.Deep
set_option linter.unusedVariables false
set_option maxRecDepth 20000

set_option maxHeartbeats 2000000 in
theorem impl_rl_word_no (s w0 : ByteArray) (r : List ByteArray) (n : Nat) (V : Value) (w : World) (h : s.size ≤ 80) (hM : TabM w) (HW : Hid (Sp.texts 32 s = w0 :: r)) (HN : Hid (n = (w0 :: r).length)) (hn80 : n ≤ 81) (hsh : Short (w0 :: r)) (hw0 : w0 = Rl.dotW) (HC : Hid (∀ w, Calls Tryz.prog 97 #[.string s, .string ⟨#[58]⟩] w fun e w' => e = .returned (.tuple #[.string s, .bool false]) ∧ w' = w))
    (HV : Hid ((Rl.rdW r).val = V)) :
    Calls Tryz.prog 70 #[.string s] w fun e w' => e = .returned V ∧ Below w.heap.size w w' := by
  have HM : Hid _ := hM
  have HSH : Hid _ := hsh
  have hdw : (w0.toList == [46, 119, 111, 114, 100]) = true := by rw [hw0, dotW_list]; rfl
  clear hM hsh hw0
  go_enter Tryz.func70, Tryz.ntmps70
  go_wp2_with fail
  refine Calls.mono (HC.out _) ?_
  rintro e w1' ⟨rfl, rfl⟩
  obtain ⟨w1, HW1⟩ : ∃ w1, Hid (w1 = w.alloc (.cells #[Value.int .i64 0, .int .i64 0, .int .i64 0, .int .i64 0, .int .i64 0, .int .i64 0, .int .u32 0, .string ⟨#[]⟩] 114)) := ⟨_, rfl⟩
  have hb : Below (w.alloc (.cells #[Value.int .i64 0, .int .i64 0, .int .i64 0, .int .i64 0, .int .i64 0, .int .i64 0, .int .u32 0, .string ⟨#[]⟩] 114)).heap.size (w.alloc (.cells #[Value.int .i64 0, .int .i64 0, .int .i64 0, .int .i64 0, .int .i64 0, .int .i64 0, .int .u32 0, .string ⟨#[]⟩] 114)) w1 := by rw [HW1.out]; exact Below.refl _ _
  rw [← show w1 = _ from HW1.out]
  have hb01 := ((Below.refl _ w).alloc (Nat.le_refl _) (.cells #[Value.int .i64 0, .int .i64 0, .int .i64 0, .int .i64 0, .int .i64 0, .int .i64 0, .int .u32 0, .string ⟨#[]⟩] 114)).trans (hb.mono (by simp))
  have hn1 : 1 ≤ n := by rw [HN.out]; simp
  have hsl := slice1 (some ⟨w1.heap.size, 0, none⟩) n n hn1
  go_wp2_with fail
  refine (split_any 32 s (w0 :: r) _ (TabM.below HM.out hb01) (by omega) HW.out).mono ?_
  rintro e w3 ⟨rfl, hb3, hfl, hsz3⟩
  rw [← HN.out]
  have HX : Hid _ := RX.mk' hb hb3 hfl
  have hb03 := HX.out.below
  have hcx : w3.cell? ⟨w1.heap.size, 0, none⟩ = some (.string w0) := by
    obtain ⟨b', o', e', _, hc'⟩ := Flds.head hfl
    injection e' with e'
    injection e' with e1 e2
    subst e1 e2
    exact hc'
  have HRS : Hid (∀ X, Below w3.heap.size w3 X → Flds X (rest1 (some ⟨w1.heap.size, 0, none⟩) n) r) := fun X hX => Flds.rest (hfl.below hX) (by rw [← HN.out]; exact Nat.le_refl _)
  clear hfl hb3
  obtain ⟨⟨k1, o1, a1, b1, c1, m1, wd1, lab1⟩, hA⟩ : ∃ A, Rl.rdW r = A := ⟨_, rfl⟩
  have HI : Hid (∀ X, Below w3.heap.size w3 X → Calls Tryz.prog 99 #[.slice (rest1 (some ⟨w1.heap.size, 0, none⟩) n) (n - 1) (n - 1)] X fun e w' => e = .returned (.agg #[.int .i64 k1, .int .i64 o1, .int .i64 a1, .int .i64 b1, .int .i64 c1, .int .i64 m1, .int .u32 wd1, .string lab1]) ∧ Below X.heap.size X w') := fun X hX => by
    have := impl_rdw (n - 1) (n - 1) _ r X (by rw [HN.out]; rfl) (by omega) (HRS.out X hX) (Short.tail HSH.out)
    rw [hA] at this
    exact this
  have HV2 : Hid (Rl.A8.val ⟨k1, o1, a1, b1, c1, m1, wd1, lab1⟩ = V) := by show _ = _; rw [← HV.out, ← hA]
  clear hA
  go_wp2_with fail
  refine (HI.out _ (Below.refl _ _)).mono ?_
  rintro e w4 ⟨rfl, hb4⟩
  obtain ⟨y0, y1, y2, y3, y4, y5, y6, y7, yf, hb5⟩ := RX.res (RX.hop HX.out hb4)
  clear hb4 hcx
  go_wp2
  exact bodyPost_ret (v := Rl.A8.val ⟨k1, o1, a1, b1, c1, m1, wd1, lab1⟩) (by simp [results, Tryz.results70, go_sem, Rl.A8.val, y0, y1, y2, y3, y4, y5, y6, y7]) rfl ⟨ret_val HV2.out, ((((((((hb5).setCell (Nat.le_refl _) _).setCell (Nat.le_refl _) _).setCell (Nat.le_refl _) _).setCell (Nat.le_refl _) _).setCell (Nat.le_refl _) _).setCell (Nat.le_refl _) _).setCell (Nat.le_refl _) _).setCell (Nat.le_refl _) _⟩
set_option maxHeartbeats 4000000 in
theorem impl_rl_op_no (s w0 : ByteArray) (r : List ByteArray) (n : Nat) (op : Int) (V : Value) (w : World) (h : s.size ≤ 80) (hM : TabM w) (hT : Tab w) (hTN : TabN w) (HW : Hid (Sp.texts 32 s = w0 :: r)) (HN : Hid (n = (w0 :: r).length)) (hn80 : n ≤ 81) (hsh : Short (w0 :: r)) (hw0 : w0 ≠ Rl.dotW) (HC : Hid (∀ w, Calls Tryz.prog 97 #[.string s, .string ⟨#[58]⟩] w fun e w' => e = .returned (.tuple #[.string s, .bool false]) ∧ w' = w))
    (HO : Hid (∀ X, TabN X → Calls Tryz.prog 101 #[.string w0] X fun e w' => e = .returned (.int .i64 op) ∧ w' = X))
    (A : Rl.A8) (HI0 : Hid (∀ X ad, Tab X → Flds X ad r → Calls Tryz.prog 100 #[.int .i64 op, .slice ad (n - 1) (n - 1)] X fun e w' => e = .returned A.val ∧ Below X.heap.size X w'))
    (HV : Hid (A.val = V)) :
    Calls Tryz.prog 70 #[.string s] w fun e w' => e = .returned V ∧ Below w.heap.size w w' := by
  have HM : Hid _ := hM
  have HT : Hid _ := hT
  have HTN : Hid _ := hTN
  have HSH : Hid _ := hsh
  have hdw : (w0.toList == [46, 119, 111, 114, 100]) = false := by
    have := Tx.list_ne w0 Rl.dotW hw0
    rw [dotW_list] at this
    exact this
  clear hM hsh hw0 hT hTN
  go_enter Tryz.func70, Tryz.ntmps70
  go_wp2_with fail
  refine Calls.mono (HC.out _) ?_
  rintro e w1' ⟨rfl, rfl⟩
  obtain ⟨w1, HW1⟩ : ∃ w1, Hid (w1 = w.alloc (.cells #[Value.int .i64 0, .int .i64 0, .int .i64 0, .int .i64 0, .int .i64 0, .int .i64 0, .int .u32 0, .string ⟨#[]⟩] 114)) := ⟨_, rfl⟩
  have hb : Below (w.alloc (.cells #[Value.int .i64 0, .int .i64 0, .int .i64 0, .int .i64 0, .int .i64 0, .int .i64 0, .int .u32 0, .string ⟨#[]⟩] 114)).heap.size (w.alloc (.cells #[Value.int .i64 0, .int .i64 0, .int .i64 0, .int .i64 0, .int .i64 0, .int .i64 0, .int .u32 0, .string ⟨#[]⟩] 114)) w1 := by rw [HW1.out]; exact Below.refl _ _
  rw [← show w1 = _ from HW1.out]
  have hb01 := ((Below.refl _ w).alloc (Nat.le_refl _) (.cells #[Value.int .i64 0, .int .i64 0, .int .i64 0, .int .i64 0, .int .i64 0, .int .i64 0, .int .u32 0, .string ⟨#[]⟩] 114)).trans (hb.mono (by simp))
  have hn1 : 1 ≤ n := by rw [HN.out]; simp
  have hsl := slice1 (some ⟨w1.heap.size, 0, none⟩) n n hn1
  go_wp2_with fail
  refine (split_any 32 s (w0 :: r) _ (TabM.below HM.out hb01) (by omega) HW.out).mono ?_
  rintro e w3 ⟨rfl, hb3, hfl, hsz3⟩
  rw [← HN.out]
  have HX : Hid _ := RX.mk' hb hb3 hfl
  have hb03 := HX.out.below
  have hcx : w3.cell? ⟨w1.heap.size, 0, none⟩ = some (.string w0) := by
    obtain ⟨b', o', e', _, hc'⟩ := Flds.head hfl
    injection e' with e'
    injection e' with e1 e2
    subst e1 e2
    exact hc'
  have HRS : Hid (∀ X, Below w3.heap.size w3 X → Flds X (rest1 (some ⟨w1.heap.size, 0, none⟩) n) r) := fun X hX => Flds.rest (hfl.below hX) (by rw [← HN.out]; exact Nat.le_refl _)
  clear hfl hb3
  obtain ⟨k1, o1, a1, b1, c1, m1, wd1, lab1⟩ := A
  have HI : Hid (∀ X, Below w3.heap.size w3 X → Calls Tryz.prog 100 #[.int .i64 op, .slice (rest1 (some ⟨w1.heap.size, 0, none⟩) n) (n - 1) (n - 1)] X fun e w' => e = .returned (.agg #[.int .i64 k1, .int .i64 o1, .int .i64 a1, .int .i64 b1, .int .i64 c1, .int .i64 m1, .int .u32 wd1, .string lab1]) ∧ Below X.heap.size X w') := fun X hX =>
    HI0.out X _ (Tab.below HT.out (bhop hb03 hX)) (HRS.out X hX)
  have HOF : Hid (∀ X, Below w3.heap.size w3 X → Calls Tryz.prog 101 #[.string w0] X fun e w' => e = .returned (.int .i64 op) ∧ w' = X) := fun X hX => HO.out X (TabN.below HTN.out (bhop hb03 hX))
  go_wp2
  go_region_with (first | (go_at_call 101; refine Calls.mono (HOF.out _ (below_drewN (Below.refl _ _) _)) ?_; rintro e w' ⟨rfl, rfl⟩) | (go_at_call 100; refine Calls.mono (HI.out _ (below_drewN (Below.refl _ _) _)) ?_; rintro e w4 ⟨rfl, hb4⟩; obtain ⟨y0, y1, y2, y3, y4, y5, y6, y7, yf, hb5⟩ := RX.res (RX.hop (RX.hop HX.out (below_drewN (Below.refl _ _) _)) hb4); clear hb4))
  all_goals
    go_wp2
    exact bodyPost_ret (v := Rl.A8.val ⟨k1, o1, a1, b1, c1, m1, wd1, lab1⟩) (by simp [results, Tryz.results70, go_sem, Rl.A8.val, y0, y1, y2, y3, y4, y5, y6, y7]) rfl ⟨ret_val HV.out, ((((((((hb5).setCell (Nat.le_refl _) _).setCell (Nat.le_refl _) _).setCell (Nat.le_refl _) _).setCell (Nat.le_refl _) _).setCell (Nat.le_refl _) _).setCell (Nat.le_refl _) _).setCell (Nat.le_refl _) _).setCell (Nat.le_refl _) _⟩
/-- What OpOf answers. -/
theorem of_any (w0 : ByteArray) : ∃ op : Int, (∀ X, TabN X → Calls Tryz.prog 101 #[.string w0] X fun e w' => e = .returned (.int .i64 op) ∧ w' = X) ∧
    ((op = -1 ∧ Rl.opN w0 = none) ∨ ∃ k : Nat, k < 33 ∧ op = k ∧ Rl.opN w0 = some k) := by
  rcases up_or w0 33 with hn | ⟨t, ht, hs, hn⟩
  · exact ⟨-1, fun X hX => impl_of_miss w0 X hX hn, .inl ⟨rfl, Rl.opN_miss w0 hn⟩⟩
  · exact ⟨t, fun X hX => impl_of_hit w0 t X hX ht hs hn, .inr ⟨t, ht, rfl, Rl.opN_hit w0 t ht hs hn⟩⟩
theorem impl_rl (s : ByteArray) (w : World) (hs : s.size ≤ 1048576) (hM : TabM w) (hT : Tab w) (hTN : TabN w) :
    Calls Tryz.prog 70 #[.string s] w fun e w' => e = .returned (Rl.line s).val ∧ Below w.heap.size w w' := by
  by_cases h80 : 80 < s.size
  · have e : Rl.line s = Rl.no := by unfold Rl.line; rw [if_pos h80]
    rw [e]
    exact impl_rl_long s w hs h80
  · have h80' : s.size ≤ 80 := by omega
    obtain ⟨w0, r, hw⟩ := Sp.texts_cons 32 s
    have hsh : Short (w0 :: r) := fun x hx => by
      have := Sp.texts_short 32 s x (by rw [hw]; exact hx)
      omega
    have hn80 : (w0 :: r).length ≤ 81 := by
      have := Sp.texts_many 32 s
      rw [hw] at this
      omega
    have key : ∀ L : Rl.A8, L = Rl.rd w0 r → (Rl.colon s = false ∨ (Rl.colon s = true ∧ Lab.ok (Tx.nums (Rl.ahead s)) = false)) → Calls Tryz.prog 70 #[.string s] w fun e w' => e = .returned L.val ∧ Below w.heap.size w w' := by
      intro L hL hc
      subst hL
      have C : (∀ w, Calls Tryz.prog 97 #[.string s, .string ⟨#[58]⟩] w fun e w' => e = .returned (.tuple #[.string ⟨(Lib.trimSuffix s.data.toList [58]).toArray⟩, .bool (Lib.hasSuffix s.data.toList [58])]) ∧ w' = w) := fun w => Tryz.strings_CutSuffix s ⟨#[58]⟩ w (by omega)
      by_cases hd : w0 = Rl.dotW
      · have e : Rl.rd w0 r = Rl.rdW r := by unfold Rl.rd; rw [if_pos hd]
        rw [e]
        rcases hc with hc | ⟨hc, hl⟩
        · obtain ⟨c1, c2⟩ := Rl.suf_no s hc
          rw [c1, c2] at C
          exact impl_rl_word_no s w0 r _ _ w h80' hM hw rfl hn80 hsh hd C rfl
        · obtain ⟨c1, c2⟩ := Rl.suf_yes s hc
          rw [c1, c2] at C
          exact impl_rl_word_bad s w0 r _ _ w h80' hM hw rfl hn80 hsh hd (Rl.ahead s) (by unfold Rl.ahead; rw [ByteArray.size_extract]; omega) hl C rfl
      · obtain ⟨op, HO, hop⟩ := of_any w0
        have HI : ∀ X ad, Tab X → Flds X ad r → Calls Tryz.prog 100 #[.int .i64 op, .slice ad ((w0 :: r).length - 1) ((w0 :: r).length - 1)] X fun e w' => e = .returned (Rl.rd w0 r).val ∧ Below X.heap.size X w' := by
          intro X ad hX hf
          have hl : r.length ≤ 80 := by simp at hn80; omega
          rcases hop with ⟨rfl, ho⟩ | ⟨k, hk, rfl, ho⟩
          · have e : Rl.rd w0 r = Rl.no := by unfold Rl.rd; rw [if_neg hd, ho]
            rw [e]
            exact impl_rdi_none ad _ _ X (by simp; omega)
          · have e : Rl.rd w0 r = Rl.rdI k r := by unfold Rl.rd; rw [if_neg hd, ho]
            rw [e]
            exact impl_rdi k _ _ ad r X hk hX (by simp) (Nat.le_refl _) (by simp; omega) hf hsh.tail
        rcases hc with hc | ⟨hc, hl⟩
        · obtain ⟨c1, c2⟩ := Rl.suf_no s hc
          rw [c1, c2] at C
          exact impl_rl_op_no s w0 r _ op _ w h80' hM hT hTN hw rfl hn80 hsh hd C HO _ HI rfl
        · obtain ⟨c1, c2⟩ := Rl.suf_yes s hc
          rw [c1, c2] at C
          exact impl_rl_op_bad s w0 r _ op _ w h80' hM hT hTN hw rfl hn80 hsh hd (Rl.ahead s) (by unfold Rl.ahead; rw [ByteArray.size_extract]; omega) hl C HO _ HI rfl
    by_cases hc : (Rl.colon s && Lab.ok (Tx.nums (Rl.ahead s))) = true
    · have e : Rl.line s = ⟨1, 0, 0, 0, 0, 0, 0, Rl.ahead s⟩ := by unfold Rl.line; rw [if_neg h80, if_pos hc]
      rw [e]
      rw [Bool.and_eq_true] at hc
      obtain ⟨c1, c2⟩ := Rl.suf_yes s hc.1
      have C : (∀ w, Calls Tryz.prog 97 #[.string s, .string ⟨#[58]⟩] w fun e w' => e = .returned (.tuple #[.string ⟨(Lib.trimSuffix s.data.toList [58]).toArray⟩, .bool (Lib.hasSuffix s.data.toList [58])]) ∧ w' = w) := fun w => Tryz.strings_CutSuffix s ⟨#[58]⟩ w (by omega)
      rw [c1, c2] at C
      exact impl_rl_label s (Rl.ahead s) _ rfl w h80' (by unfold Rl.ahead; rw [ByteArray.size_extract]; omega) hc.2 C
    · have e : Rl.line s = Rl.rd w0 r := by unfold Rl.line; rw [if_neg h80, if_neg hc, hw]
      refine key _ e ?_
      cases h1 : Rl.colon s with
      | false => exact .inl rfl
      | true => exact .inr ⟨rfl, by rw [h1] at hc; simpa using hc⟩
end Go.Proofs.YtdjapcfejmhjnaaGreatDoor
