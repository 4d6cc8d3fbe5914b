
/-
  The windows that allow kinds of access, by the specification's own function. Conditions: those that each fact names.
-/
import Derived.Test.YtfdjfjkbbfcodaaBas
import Derived.Test.YtfdjfjkbbfcodaaProg
import Derived.Test.YtfdjfjkbbfcodaaKpt
namespace Go.Proofs.Ytfdjfjkbbfcodaa
open Go.ChangeShapes Go.WideShapes Go.ChangeAt Go.RowKit Go.Deep
set_option linter.unusedVariables false

/-- A test of one bit, as the specification makes it. -/
def tb (x bit c : Int) : Bool := Int.tmod (wrap64 (Int.tdiv x bit)) 2 == c
theorem alw_all {p k : Int} (hp : 1 ≤ p ∧ p ≤ 7) (hk : 1 ≤ k ∧ k ≤ 7) : (!(tb k 1 1 && tb p 1 0) && (!(tb k 2 1 && tb p 2 0) && !(tb k 4 1 && tb p 4 0))) = alw p k := by
  rcases one7 hp with rfl | rfl | rfl | rfl | rfl | rfl | rfl <;> rcases one7 hk with rfl | rfl | rfl | rfl | rfl | rfl | rfl <;> decide +kernel
set_option maxRecDepth 20000 in
set_option maxHeartbeats 8000000 in
theorem spec_kept (a : Option Addr) (cap n : Nat) (xs : List Wn) (kd : Int) (q : Bool) (L : List Wn) (w : World) (hs : ASeg w a xs) (hl : xs.length = n) (hn : n ≤ 9223372036854775807) (hq : q = true ↔ WsOk xs) (hL0 : q = false ∨ ¬ (1 ≤ kd ∧ kd ≤ 7) → L = []) (hL1 : q = true → 1 ≤ kd ∧ kd ≤ 7 → L = keptL xs kd (List.range n)) :
    Calls Try.prog 25 #[.slice a n cap, .int .i64 kd] w fun e w' => ∃ v, e = .returned v ∧ Below w.heap.size w w' ∧ OwnA w' w.heap.size v L := by
  have hal0 : Below w.heap.size w (w.alloc (.cells #[] 60)) := (Below.refl _ _).alloc (Nat.le_refl _) _
  have o0 := OwnA.new w w.heap.size rfl
  have HW : Hid _ := spec_wsok a cap n xs q (w.alloc (.cells #[] 60)) (hs.below hal0) hl hn hq
  have HZ : Hid _ := And.intro hal0 o0
  clear hal0 o0
  cases q
  · have HT : Hid (L = []) := hL0 (.inl rfl)
    clear hs hl hq hL0 hL1
    go_enter Try.func25, Try.ntmps25
    go_wp2_with fail
    refine Calls.mono HW.out ?_
    rintro u w1 ⟨rfl, hb1⟩
    have HB : Hid _ := And.intro (HZ.out.1.trans (hb1.mono HZ.out.1.size)) (HZ.out.2.below hb1)
    clear hb1
    go_wp2
    go_ret
    exact ⟨_, rfl, HB.out.1, by rw [HT.out]; exact HB.out.2⟩
  by_cases hk : 1 ≤ kd ∧ kd ≤ 7
  rotate_left
  · have HT : Hid (L = []) := hL0 (.inr hk)
    have HI : Hid (inr kd 1 7 = false) := inr_no hk
    clear hs hl hq hL0 hL1 hk
    go_enter Try.func25, Try.ntmps25
    go_wp2_with fail
    refine Calls.mono HW.out ?_
    rintro u w1 ⟨rfl, hb1⟩
    have HB : Hid _ := And.intro (HZ.out.1.trans (hb1.mono HZ.out.1.size)) (HZ.out.2.below hb1)
    clear hb1
    go_wp2_with fail
    refine (in_any kd 1 7 _).mono ?_
    rintro x w2 ⟨rfl, rfl⟩
    rw [HI.out]
    go_wp2
    go_ret
    exact ⟨_, rfl, HB.out.1, by rw [HT.out]; exact HB.out.2⟩
  have HT : Hid (L = keptL xs kd (List.range n)) := hL1 rfl hk
  have HI : Hid (inr kd 1 7 = true) := inr_yes hk
  have HO : Hid (WsOk xs) := hq.1 rfl
  have HS : Hid (ASeg w a xs) := hs
  have HL : Hid _ := hl
  have HK : Hid _ := hk
  obtain ⟨iA, hi⟩ := infoA'
  have HIN : Hid _ := hi
  have h4 : n ≤ 4 := by rw [← hl]; exact HO.out.1
  clear hs hl hq hL0 hL1 hk hi
  go_enter Try.func25, Try.ntmps25
  go_wp2_with fail
  refine Calls.mono HW.out ?_
  rintro u w1 ⟨rfl, hb1⟩
  have HB : Hid (Below w.heap.size w w1 ∧ OwnA w1 w.heap.size (.slice (some ⟨w.heap.size, 0, none⟩) 0 0) []) := And.intro (HZ.out.1.trans (hb1.mono HZ.out.1.size)) (HZ.out.2.below hb1)
  clear hb1 HZ HW
  go_wp2_with fail
  refine (in_any kd 1 7 _).mono ?_
  rintro x w2 ⟨rfl, rfl⟩
  rw [HI.out]
  go_wp2
  go_loopw [5, 6] (fun v i wr => ∃ m : Nat, m ≤ n ∧ i = .int .i64 m ∧ Hid (Below w.heap.size w wr ∧ OwnA wr w.heap.size v (keptL xs kd (List.range m)))) (fun _ i _ => n - (intOf i).toNat)
  case atStart => exact ⟨0, by omega, rfl, HB.out.1, HB.out.2⟩
  case round =>
    obtain ⟨m, hm, rfl, HR⟩ := hrel
    by_cases hmn : m < n
    rotate_left
    · obtain rfl : m = n := by omega
      go_wp2
      go_ret
      exact ⟨_, rfl, HR.out.1, by rw [HT.out]; exact HR.out.2⟩
    have hmn' : (m : Int) < (n : Int) := by omega
    have hml : m < xs.length := by rw [HL.out]; exact hmn
    obtain ⟨b1, o1, rfl, hbl1, p1⟩ := ASeg.at HS.out m hml
    replace p1 := p1.of (w' := wr) (fun i => HR.out.1.cell (p := ⟨b1, i, none⟩) hbl1)
    have hpm := (WsOk.at HO.out hml).2.2.2.2.2
    have hall := alw_all hpm HK.out
    have HKH : Hid (alw (xs.getD m wn0).2.2 kd = true → keptL xs kd (List.range (m + 1)) = keptL xs kd (List.range m) ++ [xs.getD m wn0]) := fun e => by rw [List.range_succ]; exact keptL_hit _ e
    have HKM : Hid (alw (xs.getD m wn0).2.2 kd = false → keptL xs kd (List.range (m + 1)) = keptL xs kd (List.range m)) := fun e => by rw [List.range_succ]; exact keptL_miss _ e
    have hkl : (keptL xs kd (List.range m)).length ≤ 4 := by have := keptL_len xs kd (List.range m); rw [List.length_range] at this; omega
    generalize xs.getD m wn0 = z at p1 hall HKH HKM
    clear hpm
    obtain ⟨z1, z2, z3⟩ := z
    obtain ⟨c0, c1, c2⟩ := p1
    simp only at c0 c1 c2 hall HKH HKM
    generalize alw z3 kd = qa at hall HKH HKM
    obtain ⟨k1, hk1⟩ : ∃ k1, tb kd 1 1 = k1 := ⟨_, rfl⟩
    obtain ⟨k2, hk2⟩ : ∃ k1, tb kd 2 1 = k1 := ⟨_, rfl⟩
    obtain ⟨k4, hk4⟩ : ∃ k1, tb kd 4 1 = k1 := ⟨_, rfl⟩
    obtain ⟨r1, hr1⟩ : ∃ k1, tb z3 1 0 = k1 := ⟨_, rfl⟩
    obtain ⟨r2, hr2⟩ : ∃ k1, tb z3 2 0 = k1 := ⟨_, rfl⟩
    obtain ⟨r4, hr4⟩ : ∃ k1, tb z3 4 0 = k1 := ⟨_, rfl⟩
    rw [hk1, hk2, hk4, hr1, hr2, hr4] at hall
    have HAL : Hid _ := hall
    clear hall
    unfold tb at hk1 hk2 hk4 hr1 hr2 hr4
    rw [Int.tdiv_one] at hk1 hr1
    have HF : Hid _ := And.intro hk1 (And.intro hk2 (And.intro hk4 (And.intro hr1 (And.intro hr2 hr4))))
    clear hk1 hk2 hk4 hr1 hr2 hr4
    obtain ⟨e1, HE1⟩ : ∃ e, Hid ((!(k1 && r1)) = e) := ⟨_, rfl⟩
    obtain ⟨e2, HE2⟩ : ∃ e, Hid ((!(k2 && r2)) = e) := ⟨_, rfl⟩
    obtain ⟨e4, HE4⟩ : ∃ e, Hid ((!(k4 && r4)) = e) := ⟨_, rfl⟩
    rw [HE1.out, HE2.out, HE4.out] at HAL
    go_wp2
    go_loopw [7, 8] (fun al bt wi => wi = wr ∧ ((al = .bool true ∧ bt = .int .i64 1) ∨ (al = .bool e1 ∧ bt = .int .i64 2) ∨ (al = .bool (e1 && e2) ∧ bt = .int .i64 4) ∨ (al = .bool qa ∧ bt = .int .i64 8))) (fun _ bt _ => 8 - (intOf bt).toNat)
    case atStart => exact ⟨rfl, .inl ⟨rfl, rfl⟩⟩
    case round =>
      obtain ⟨rfl, hcase⟩ := hrel
      obtain ⟨hk1, hk2, hk4, hr1, hr2, hr4⟩ := HF.out
      rcases hcase with ⟨rfl, rfl⟩ | ⟨rfl, rfl⟩ | ⟨rfl, rfl⟩ | ⟨rfl, rfl⟩
      · clear hk2 hk4 hr2 hr4
        cases k1 <;> cases r1
        all_goals
          have HE : Hid _ := HE1.out
          simp only [Bool.and_true, Bool.and_false, Bool.not_true, Bool.not_false] at HE
          go_wp2
          go_roundw
          case rel => exact ⟨trivial, .inr (.inl ⟨by rw [← HE.out], rfl⟩)⟩
          case measure => simp [intOf]
      · clear hk1 hk4 hr1 hr4
        cases k2 <;> cases r2
        all_goals
          have HE : Hid _ := HE2.out
          simp only [Bool.and_true, Bool.and_false, Bool.not_true, Bool.not_false] at HE
          go_wp2
          go_roundw
          case rel => exact ⟨trivial, .inr (.inr (.inl ⟨by rw [← HE.out]; first | rfl | simp, rfl⟩))⟩
          case measure => simp [intOf]
      · clear hk1 hk2 hr1 hr2
        obtain ⟨e12, HE12⟩ : ∃ e, Hid ((e1 && e2) = e) := ⟨_, rfl⟩
        rw [HE12.out]
        have HAL2 : Hid ((e12 && e4) = qa) := by show _ = _; rw [← HE12.out, ← HAL.out, Bool.and_assoc]
        cases k4 <;> cases r4
        all_goals
          have HE : Hid _ := HE4.out
          simp only [Bool.and_true, Bool.and_false, Bool.not_true, Bool.not_false] at HE
          go_wp2
          go_roundw
          case rel => exact ⟨trivial, .inr (.inr (.inr ⟨by rw [← HAL2.out, ← HE.out]; first | rfl | simp, rfl⟩))⟩
          case measure => simp [intOf]
      · clear hk1 hk2 hk4 hr1 hr2 hr4 HE1 HE2 HE4 HAL HF
        cases qa
        · have HK2 : Hid _ := HKM.out (by trivial)
          clear HKH HKM
          go_wp2
          go_roundw
          case rel => exact ⟨m + 1, by omega, by go_num, HR.out.1, by rw [HK2.out]; exact HR.out.2⟩
          case measure => simp [intOf]; omega
        · have HK2 : Hid _ := HKH.out (by trivial)
          clear HKH HKM
          have hown0 := HR.out.2
          generalize keptL xs kd (List.range m) = K0 at hown0 HK2 hkl
          have hal : Below wr.heap.size wr (wr.alloc (.cells #[.int .i64 z1, .int .i64 z2, .int .i64 z3] 60)) := (Below.refl _ _).alloc (Nat.le_refl _) _
          have hown7 : (wr.alloc (.cells #[.int .i64 z1, .int .i64 z2, .int .i64 z3] 60)).ownsRow w.heap.size 60 3 u5 K0.length (acCells K0) := World.ownsRow.alloc hown0 _
          have HBS : Hid (w.heap.size ≤ (wr.alloc (.cells #[.int .i64 z1, .int .i64 z2, .int .i64 z3] 60)).heap.size) := Nat.le_trans HR.out.1.size hal.size
          have HZ : Hid (∀ (gg cap1 : Nat) (w9 : World), w9.ownsRow w.heap.size 60 3 (.slice (some ⟨gg, 0, none⟩) (K0.length + 1) cap1) (K0.length + 1) (acCells K0 ++ [.int .i64 z1, .int .i64 z2, .int .i64 z3]) → (wr.alloc (.cells #[.int .i64 z1, .int .i64 z2, .int .i64 z3] 60)).grownBy w9 u5.ownBlock → Below w.heap.size w w9 ∧ OwnA w9 w.heap.size (.slice (some ⟨gg, 0, none⟩) (K0.length + 1) cap1) (keptL xs kd (List.range (m + 1)))) := fun gg cap1 w9 h1 h2 => by
            refine ⟨Below.grown (HR.out.1.trans (hal.mono HR.out.1.size)) h2 (Nat.le_trans HR.out.1.size hal.size) (fun k e => ?_), by rw [HK2.out]; exact OwnA.snoc (x := (z1, z2, z3)) h1⟩
            rcases hown7.2 with ⟨hv, _⟩ | ⟨g, c, cur, hv, hbs, _⟩
            · rw [hv] at e; simp [Value.ownBlock] at e
            · rw [hv] at e
              simp [Value.ownBlock] at e
              omega
          clear hal hown0 HR
          go_wp2_with (at_builtin; (refine wpList_append_lies _ rfl (.tmp 46) (.tmp 51) 25 rfl w.heap.size 60 iA (.agg #[.int .i64 0, .int .i64 0, .int .i64 0]) 3 24 Try.underlying25 HIN.out.1 HIN.out.2.1 HIN.out.2.2.1 HIN.out.2.2.2 rfl (by omega) _ _ _ rfl hown7 _ 1 1 [.int .i64 z1, .int .i64 z2, .int .i64 z3] rfl rfl (news_acc _ (z1, z2, z3) _ (by simp)) (one_acc (z1, z2, z3)) (by omega) (by unfold maxLen; omega) (by omega) HBS.out _ rfl ?_; intro gg cap1 w9 hown1 hgrow hat hlt1; have HYY : Hid _ := HZ.out gg cap1 w9 hown1 hgrow; clear hown1 hgrow hat hlt1))
          go_roundw
          case rel => exact ⟨m + 1, by omega, by go_num, HYY⟩
          case measure => simp [intOf]; omega
end Go.Proofs.Ytfdjfjkbbfcodaa
