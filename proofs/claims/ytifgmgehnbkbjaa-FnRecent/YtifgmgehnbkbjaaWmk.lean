/-
  The marks that are laid into rows of the call's own, and how they are looked up. Conditions: the ways are at most 1048576 together, the first mark is at most 1000.
-/
import Derived.Test.YtifgmgehnbkbjaaRows
import Derived.Test.YtifgmgehnbkbjaaWpb
import Derived.Test.YtifgmgehnbkbjaaWeq
namespace Go.Proofs.Ytifgmgehnbkbjaa
open Go.ChangeShapes Go.WideShapes Go.ChangeAt Go.RowKit Go.Deep
set_option linter.unusedVariables false

theorem rem3 (K : Nat) : (((K : Nat) : Int) % 3 == 0) = decide (K % 3 = 0) := by
  by_cases h : K % 3 = 0
  · rw [decide_eq_true h]; simp; omega
  · rw [decide_eq_false h]; simp; omega
set_option maxHeartbeats 1000000 in
theorem mark_ways (lo hi R cap k n : Nat) (a : Option Addr) (ws : List Wy) (w : World) (ho : OW w lo hi a ws R) (hl : ws.length = n) (hn : n ≤ 1048576) (hk1 : k ≤ 1000000000) :
    Calls Try.prog 87 #[.slice a n cap, .int .i64 (k : Int)] w fun e w' => e = .returned (.int .i64 ((k + 2 * n : Nat) : Int)) ∧ Betw R (R + 1) w w' ∧ w'.heap.size = w.heap.size ∧ OW w' lo hi a (markWs k n) R ∧ (n = 0 → w' = w) := by
  by_cases h0 : n = 0
  · subst h0
    go_enter Try.func87, Try.ntmps87
    go_wp2
    refine wp_loop_rounds 1 ?_
    rw [rounds_succ]
    go_wp2
    go_ret
    exact ⟨ret_int (by simp), Betw.refl _ _ _, rfl, OW.nil _ _ _ _ _, fun _ => rfl⟩
  obtain ⟨off, rfl, h1, h2, hlt, hc, hf⟩ := ho (by omega)
  have HB : Hid (PairBlk w R off n 0 (markWs k n)) := ⟨hlt, hf, fun i hi => ⟨⟨_, (hc i (by omega)).1⟩, ⟨_, (hc i (by omega)).2⟩⟩, fun i hi => absurd hi (by omega)⟩
  clear ho hc hf hl
  go_enter Try.func87, Try.ntmps87
  go_wp2
  go_loopw [1, 5] (fun t i wr => ∃ m : Nat, m ≤ n ∧ i = .int .i64 m ∧ t = .int .i64 ((k + 2 * m : Nat) : Int) ∧ Hid (Betw R (R + 1) w wr ∧ wr.heap.size = w.heap.size ∧ PairBlk wr R off n m (markWs k n))) (fun _ i _ => n - (intOf i).toNat)
  case atStart => exact ⟨0, by omega, rfl, by go_num, Betw.refl _ _ _, rfl, HB.out⟩
  case round =>
    obtain ⟨m, hm, rfl, rfl, HR⟩ := hrel
    by_cases hmn : m < n
    rotate_left
    · obtain rfl : m = n := by omega
      go_wp2
      go_ret
      obtain ⟨hb, hsz, hp⟩ := HR.out
      exact ⟨rfl, hb, hsz, hp.ow (markWs_len _ _) _ _ h1 h2, fun e => absurd e h0⟩
    have hmn' : (m : Int) < (n : Int) := by omega
    obtain ⟨hb, hsz, hp⟩ := HR.out
    obtain ⟨⟨u1, hu1⟩, ⟨u2, hu2⟩⟩ := hp.room m hmn
    have hfz := hp.free
    have hp2 := hp.put hmn ((k + 2 * m : Nat) : Int) (decide ((k + 2 * m + 1) % 3 = 0)) (markWs_at k n m hmn)
    have HR2 : Hid (Betw R (R + 1) w ((wr.setCell ⟨R, off + m * 2, none⟩ (.int .i64 ((k + 2 * m : Nat) : Int))).setCell ⟨R, off + m * 2 + 1, none⟩ (.bool (decide ((k + 2 * m + 1) % 3 = 0)))) ∧ ((wr.setCell ⟨R, off + m * 2, none⟩ (.int .i64 ((k + 2 * m : Nat) : Int))).setCell ⟨R, off + m * 2 + 1, none⟩ (.bool (decide ((k + 2 * m + 1) % 3 = 0)))).heap.size = w.heap.size ∧ PairBlk ((wr.setCell ⟨R, off + m * 2, none⟩ (.int .i64 ((k + 2 * m : Nat) : Int))).setCell ⟨R, off + m * 2 + 1, none⟩ (.bool (decide ((k + 2 * m + 1) % 3 = 0)))) R off n (m + 1) (markWs k n)) :=
      ⟨(hb.setCell (p := ⟨R, off + m * 2, none⟩) (Nat.le_refl _) (Nat.lt_succ_self _) _).setCell (p := ⟨R, off + m * 2 + 1, none⟩) (Nat.le_refl _) (Nat.lt_succ_self _) _, by simpa using hsz, hp2⟩
    have hu3 : (wr.setCell ⟨R, off + m * 2, none⟩ (.int .i64 ((k + 2 * m : Nat) : Int))).cell? ⟨R, off + m * 2 + 1, none⟩ = some u2 := by rw [World.cell?_setCell_other _ _ _ _ (by simp)]; exact hu2
    have HM := rem3 (k + 2 * m + 1)
    obtain ⟨K, HK⟩ : ∃ K, Hid (K = k + 2 * m) := ⟨_, rfl⟩
    have hK : K ≤ 1003000000 := by rw [HK.out]; omega
    rw [← HK.out] at HR2 hu3 HM ⊢
    have HM2 : (((K : Nat) : Int) + 1) % 3 = (((K + 1 : Nat) : Int) % 3) := rfl
    generalize decide ((K + 1) % 3 = 0) = dm at HR2 HM
    clear hb hsz hp hp2 HR
    go_wp2
    go_roundw
    case rel => exact ⟨m + 1, by omega, by go_num, by rw [HK.out]; go_num, HR2⟩
    case measure => simp [intOf]; omega
set_option maxHeartbeats 1000000 in
theorem held_ways (cap k n : Nat) (a : Option Addr) (w : World) (hs : WSeg w a (markWs k n)) (hn : n ≤ 1048576) (hk1 : k ≤ 1000000000) :
    Calls Try.prog 88 #[.slice a n cap, .int .i64 (k : Int)] w fun e w' => e = .returned (.int .i64 ((k + 2 * n : Nat) : Int)) ∧ w' = w := by
  have HS : Hid _ := hs
  clear hs
  go_enter Try.func88, Try.ntmps88
  go_wp2
  go_loopw [1, 5] (fun t i wr => ∃ m : Nat, m ≤ n ∧ i = .int .i64 m ∧ t = .int .i64 ((k + 2 * m : Nat) : Int) ∧ wr = w) (fun _ i _ => n - (intOf i).toNat)
  case atStart => exact ⟨0, by omega, rfl, by go_num, rfl⟩
  case round =>
    obtain ⟨m, hm, rfl, rfl, rfl⟩ := hrel
    by_cases hmn : m < n
    rotate_left
    · obtain rfl : m = n := by omega
      go_wp2
      go_ret
      exact ⟨rfl, rfl⟩
    have hmn' : (m : Int) < (n : Int) := by omega
    obtain ⟨b1, o1, rfl, hbl1, c1, d1⟩ := WSeg.at (w := wr) HS.out m (by rw [markWs_len]; exact hmn)
    rw [markWs_at k n m hmn] at c1 d1
    simp only at c1 d1
    have HM := rem3 (k + 2 * m + 1)
    obtain ⟨K, HK⟩ : ∃ K, Hid (K = k + 2 * m) := ⟨_, rfl⟩
    have hK : K ≤ 1003000000 := by rw [HK.out]; omega
    rw [← HK.out] at c1 d1 HM ⊢
    have HM2 : (((K : Nat) : Int) + 1) % 3 = (((K + 1 : Nat) : Int) % 3) := rfl
    generalize decide ((K + 1) % 3 = 0) = dm at d1 HM
    clear hbl1
    cases dm <;>
    · go_wp2
      go_roundw
      case rel => exact ⟨m + 1, by omega, by go_num, by rw [HK.out]; go_num, trivial⟩
      case measure => simp [intOf]; omega
theorem markD_len (k : Nat) (D : Nat → List Wy) (i : Nat) : (markD k D i).length = (D i).length := by simp [markD, markWs_len]
set_option maxHeartbeats 1000000 in
theorem mark_rows (lo hi cap k n : Nat) (a : Option Addr) (D : Nat → List Wy) (w : World) (ho : ORows w lo hi a n D) (hn : n ≤ 1048576) (ht : tot D n ≤ 1048576) (hk1 : k ≤ 1000) :
    Calls Try.prog 67 #[.slice a n cap, .int .i64 (k : Int)] w fun e w' => e = .returned (.int .i64 ((k + 2 * tot D n : Nat) : Int)) ∧ Betw lo hi w w' ∧ w'.heap.size = w.heap.size ∧ ORows w' lo hi a n (markD k D) := by
  by_cases h0 : n = 0
  · subst h0
    go_enter Try.func67, Try.ntmps67
    go_wp2
    refine wp_loop_rounds 1 ?_
    rw [rounds_succ]
    go_wp2
    go_ret
    exact ⟨ret_int (by simp [tot]), Betw.refl _ _ _, rfl, ho.congr (fun i hi => absurd hi (by omega))⟩
  obtain ⟨B, off, A, C, R, h1, hra⟩ := ho
  obtain ⟨rfl, hB1, hB2, hBw⟩ := h1 (by omega)
  have HA : Hid _ := hra
  have HT : Hid _ := ht
  clear hra ht h1
  go_enter Try.func67, Try.ntmps67
  go_wp2
  go_loopw [1, 5] (fun t i wr => ∃ m K : Nat, m ≤ n ∧ i = .int .i64 m ∧ t = .int .i64 (K : Int) ∧ Hid (K = k + 2 * tot D m ∧ Betw lo hi w wr ∧ wr.heap.size = w.heap.size ∧ ORA wr lo hi B off A C R n (fun i => if i < m then markD k D i else D i))) (fun _ i _ => n - (intOf i).toNat)
  case atStart => exact ⟨0, k, by omega, rfl, rfl, rfl, Betw.refl _ _ _, rfl, HA.out.congr (fun i hi => by simp)⟩
  case round =>
    obtain ⟨m, K, hm, rfl, rfl, HR⟩ := hrel
    by_cases hmn : m < n
    rotate_left
    · obtain rfl : m = n := by omega
      go_wp2
      go_ret
      obtain ⟨rfl, hb, hsz, hp⟩ := HR.out
      exact ⟨rfl, hb, hsz, B, off, A, C, R, fun _ => ⟨rfl, hB1, hB2, by rw [hsz]; exact hBw⟩, hp.congr (fun i hi => by simp [hi])⟩
    have hmn' : (m : Int) < (n : Int) := by omega
    obtain ⟨hK, hb, hsz, hp⟩ := HR.out
    have hrow := hp.row m hmn
    have hcell := hp.cell m hmn
    simp only [Nat.lt_irrefl, if_false] at hrow hcell
    have htm := tot_mono D (show m ≤ n by omega)
    have hlen := tot_row D hmn
    have hT := HT.out
    have HC : Hid _ := mark_ways lo hi (R m) (C m) K (D m).length (A m) (D m) wr hrow rfl (by omega) (by omega)
    have HX : Hid _ := hrow
    obtain ⟨len, Hlen⟩ : ∃ len, Hid ((D m).length = len) := ⟨_, rfl⟩
    rw [Hlen.out] at hcell HC
    clear hb hsz hp hrow htm hlen hT hK
    go_wp2_with fail
    refine Calls.mono HC.out ?_
    rintro u w2 ⟨rfl, hb2, hs2, how, he⟩
    have HR2 : Hid (K + 2 * len = k + 2 * tot D (m + 1) ∧ Betw lo hi w w2 ∧ w2.heap.size = w.heap.size ∧ ORA w2 lo hi B off A C R n (fun i => if i < m + 1 then markD k D i else D i)) := by
      obtain ⟨hK, hb, hsz, hp⟩ := HR.out
      have hL := Hlen.out
      by_cases e0 : len = 0
      · obtain rfl := he e0
        refine ⟨by simp only [tot]; omega, hb, hsz, hp.congr (fun i hi => ?_)⟩
        by_cases e : i = m
        · subst e
          have hnil : D i = [] := List.eq_nil_of_length_eq_zero (by omega)
          simp [markD, hnil, markWs]
        · by_cases e1 : i < m
          · rw [if_pos e1, if_pos (by omega)]
          · rw [if_neg e1, if_neg (by omega)]
      · obtain ⟨_, _, g1, g2, _⟩ := HX.out (by omega)
        refine ⟨by simp only [tot]; omega, hb.trans (hb2.wide g1 g2), hs2.trans hsz, ?_⟩
        have h3 := hp.put m hmn (by rw [hsz]; exact hBw) (markWs K len) (by rw [markWs_len]; simp [hL]) hb2 how (by simp; omega)
        refine h3.congr (fun i hi => ?_)
        by_cases e : i = m
        · subst e
          rw [if_pos rfl, if_pos (by omega)]
          simp only [markD]
          rw [hK, hL]
        · rw [if_neg e]
          by_cases e1 : i < m
          · rw [if_pos e1, if_pos (by omega)]
          · rw [if_neg e1, if_neg (by omega)]
    clear hb2 hs2 how he HR HC hcell HX
    go_wp2
    go_roundw
    case rel => exact ⟨m + 1, K + 2 * len, by omega, by go_num, rfl, HR2⟩
    case measure => simp [intOf]; omega
set_option maxHeartbeats 1000000 in
theorem held_rows (cap k n : Nat) (a : Option Addr) (D : Nat → List Wy) (w : World) (hs : RSeg w a n (markD k D)) (hn : n ≤ 1048576) (ht : tot D n ≤ 1048576) (hk1 : k ≤ 1000) :
    Calls Try.prog 68 #[.slice a n cap, .int .i64 (k : Int)] w fun e w' => e = .returned (.int .i64 ((k + 2 * tot D n : Nat) : Int)) ∧ w' = w := by
  have HS : Hid _ := hs
  have HT : Hid _ := ht
  clear hs ht
  go_enter Try.func68, Try.ntmps68
  go_wp2
  go_loopw [1, 5] (fun t i wr => ∃ m K : Nat, m ≤ n ∧ i = .int .i64 m ∧ t = .int .i64 (K : Int) ∧ wr = w ∧ Hid (K = k + 2 * tot D m)) (fun _ i _ => n - (intOf i).toNat)
  case atStart => exact ⟨0, k, by omega, rfl, rfl, rfl, rfl⟩
  case round =>
    obtain ⟨m, K, hm, rfl, rfl, rfl, HK⟩ := hrel
    by_cases hmn : m < n
    rotate_left
    · obtain rfl : m = n := by omega
      go_wp2
      go_ret
      exact ⟨ret_int (by rw [HK.out]), rfl⟩
    have hmn' : (m : Int) < (n : Int) := by omega
    obtain ⟨b1, o1, a1, c1, rfl, hbl1, e1, s1⟩ := RSeg.at (w := wr) HS.out m hmn
    rw [markD_len] at e1
    have htm := tot_mono D (show m ≤ n by omega)
    have hlen := tot_row D hmn
    have hT := HT.out
    have hKK := HK.out
    have HC : Hid _ := held_ways c1 K (D m).length a1 wr (by rw [hKK]; exact s1) (by omega) (by omega)
    have HK2 : Hid (K + 2 * (D m).length = k + 2 * tot D (m + 1)) := by show _ = _; simp only [tot]; omega
    generalize (D m).length = len at e1 HC HK2
    clear hbl1 s1 htm hlen hT hKK
    go_wp2_with fail
    refine Calls.mono HC.out ?_
    rintro u w2 ⟨rfl, rfl⟩
    go_wp2
    go_roundw
    case rel => exact ⟨m + 1, K + 2 * len, by omega, by go_num, rfl, trivial, HK2⟩
    case measure => simp [intOf]; omega
theorem mark_cache (s y l : Int) (lo hi cap k n : Nat) (a : Option Addr) (D : Nat → List Wy) (w : World) (ho : ORows w lo hi a n D) (hn : n ≤ 1048576) (ht : tot D n ≤ 1048576) (hk1 : k ≤ 1000) (hhi : hi ≤ w.heap.size) :
    Calls Try.prog 25 #[cch s y l (.slice a n cap), .int .i64 (k : Int)] w fun e w' => e = .returned (.int .i64 ((k + 2 * tot D n : Nat) : Int)) ∧ Betw lo hi w w' ∧ ORows w' lo hi a n (markD k D) := by
  have hbw := (Below.refl _ w).alloc (Nat.le_refl _) (.cells #[.int .i64 s, .int .i64 y, .int .i64 l, .slice a n cap] 43)
  have HC : Hid _ := mark_rows lo hi cap k n a D _ (ORows.below ho hbw) hn ht hk1
  have HB : Hid _ := hbw
  clear ho hbw
  go_enter Try.func25, Try.ntmps25
  go_wp2_with fail
  refine Calls.mono HC.out ?_
  rintro u w2 ⟨rfl, hb2, hs2, hor⟩
  have HX : Hid _ := And.intro hb2 hor
  clear hb2 hs2 hor
  go_wp2
  go_ret
  exact ⟨rfl, (Below.betw HB.out).trans HX.out.1, HX.out.2⟩
theorem held_cache (s y l : Int) (cap k n : Nat) (a : Option Addr) (D : Nat → List Wy) (w : World) (hs : RSeg w a n (markD k D)) (hn : n ≤ 1048576) (ht : tot D n ≤ 1048576) (hk1 : k ≤ 1000) :
    Calls Try.prog 26 #[cch s y l (.slice a n cap), .int .i64 (k : Int)] w fun e w' => e = .returned (.int .i64 ((k + 2 * tot D n : Nat) : Int)) ∧ Below w.heap.size w w' := by
  have hbw := (Below.refl _ w).alloc (Nat.le_refl _) (.cells #[.int .i64 s, .int .i64 y, .int .i64 l, .slice a n cap] 43)
  have HC : Hid _ := held_rows cap k n a D _ (RSeg.below hs hbw) hn ht hk1
  have HB : Hid _ := hbw
  have hK : k + 2 * tot D n ≤ 1000000000 := by omega
  generalize k + 2 * tot D n = K at HC hK
  clear hs hbw
  go_enter Try.func26, Try.ntmps26
  go_wp2_with fail
  refine Calls.mono HC.out ?_
  rintro u w2 ⟨rfl, rfl⟩
  have hK0 : ¬ ((K : Int) < 0) := by omega
  go_wp2
  go_ret
  exact ⟨rfl, HB.out⟩
end Go.Proofs.Ytifgmgehnbkbjaa
