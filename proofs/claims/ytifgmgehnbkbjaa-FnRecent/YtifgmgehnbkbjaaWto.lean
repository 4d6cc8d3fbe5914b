/-
  What the laws' own copies of rows and caches are: rows of the call's own that read as those that came in. Conditions: the rows and their ways are at most 1048576 together.
-/
import Derived.Test.YtifgmgehnbkbjaaRows
import Derived.Test.YtifgmgehnbkbjaaWpb
import Derived.Test.YtifgmgehnbkbjaaWeq
namespace Go.Proofs.Ytifgmgehnbkbjaa
open Go.ChangeShapes Go.WideShapes Go.ChangeAt Go.RowKit Go.Deep
set_option linter.unusedVariables false

theorem to_way (z : Int) (d : Bool) (w : World) : Calls Try.prog 99 #[.agg #[.int .i64 z, .bool d]] w fun x w' => x = .returned (.agg #[.int .i64 z, .bool d]) ∧ Below w.heap.size w w' := by
  go_enter Try.func99, Try.ntmps99
  go_wp2
  exact bodyPost_ret (v := .agg #[.int .i64 z, .bool d]) (by simp [results, Try.results99, go_sem]) rfl ⟨rfl, (((Below.refl _ _).alloc (Nat.le_refl _) _).alloc (by simp) _).alloc (by simp; omega) _⟩
set_option maxHeartbeats 1000000 in
theorem to_ways (a : Option Addr) (cap n : Nat) (ws : List Wy) (w : World) (hs : WSeg w a ws) (hl : ws.length = n) (hn : n ≤ 1048576) :
    Calls Try.prog 90 #[.slice a n cap] w fun e w' => e = .returned (.slice (some ⟨w.heap.size, 0, none⟩) n n) ∧ Below w.heap.size w w' ∧ PairBlk w' w.heap.size 0 n n ws := by
  have hmk := run_make_pairs n hn
  have HS : Hid _ := And.intro hs hl
  clear hs hl
  go_enter Try.func90, Try.ntmps90
  go_wp2
  go_loopw [4] (fun i wr => ∃ k : Nat, k ≤ n ∧ i = .int .i64 k ∧ Hid (Below w.heap.size w wr ∧ PairBlk wr w.heap.size 0 n k ws)) (fun i _ => n - (intOf i).toNat)
  case atStart => exact ⟨0, by omega, rfl, (Below.refl _ _).alloc (Nat.le_refl _) _, PairBlk.made w n 87 ws⟩
  case round =>
    obtain ⟨k, hk, rfl, HB⟩ := hrel
    by_cases hlt : k < n
    · have hlt' : (k : Int) < (n : Int) := by omega
      obtain ⟨b1, o1, rfl, hbl1, c1, d1⟩ := WSeg.at (w := w) HS.out.1 k (by have := HS.out.2; omega)
      have hb := HB.out.1
      replace c1 := (hb.cell (p := ⟨b1, o1 + k * 2, none⟩) hbl1).trans c1
      replace d1 := (hb.cell (p := ⟨b1, o1 + k * 2 + 1, none⟩) hbl1).trans d1
      obtain ⟨p, HP⟩ : ∃ p, Hid (ws.getD k wd = p) := ⟨_, rfl⟩
      rw [HP.out] at c1 d1
      obtain ⟨z, d⟩ := p
      simp only at c1 d1
      clear hbl1
      go_wp2_with fail
      refine (to_way z d _).mono ?_
      rintro u w2 ⟨rfl, hbb⟩
      have hp2 := HB.out.2.below hbb
      have hb2 := hb.trans (hbb.mono hb.size)
      obtain ⟨⟨u1, hu1⟩, ⟨u2, hu2⟩⟩ := hp2.room k hlt
      have hf := hp2.free
      have HP3 := hp2.put hlt z d HP.out
      have HB3 : Hid (Below w.heap.size w ((w2.setCell ⟨w.heap.size, 0 + k * 2, none⟩ (.int .i64 z)).setCell ⟨w.heap.size, 0 + k * 2 + 1, none⟩ (.bool d)) ∧ PairBlk ((w2.setCell ⟨w.heap.size, 0 + k * 2, none⟩ (.int .i64 z)).setCell ⟨w.heap.size, 0 + k * 2 + 1, none⟩ (.bool d)) w.heap.size 0 n (k + 1) ws) :=
        ⟨(hb2.setCell (p := ⟨w.heap.size, 0 + k * 2, none⟩) (Nat.le_refl _) _).setCell (p := ⟨w.heap.size, 0 + k * 2 + 1, none⟩) (Nat.le_refl _) _, HP3⟩
      rw [Nat.zero_add] at hu1 hu2 HB3
      have hu3 : (w2.setCell ⟨w.heap.size, k * 2, none⟩ (.int .i64 z)).cell? ⟨w.heap.size, k * 2 + 1, none⟩ = some u2 := by rw [World.cell?_setCell_other _ _ _ _ (by simp)]; exact hu2
      clear hbb hp2 hb2 HP3 HB hb c1 d1
      go_wp2
      go_roundw
      case rel => exact ⟨k + 1, by omega, by go_num, HB3⟩
      case measure => simp [intOf]; omega
    · obtain rfl : k = n := by omega
      go_wp2
      go_ret
      exact ⟨rfl, HB.out.1, HB.out.2⟩
theorem Rsb.made (w : World) (n : Nat) (T : TypeId) (D : Nat → List Wy) : Rsb (w.alloc (.cells (madeCells #[.slice none 0 0] n) T)) w.heap.size (w.heap.size + 1) w.heap.size n 0 D := by
  refine ⟨by omega, by simp, Nat.le_refl _, fun j => by simp, fun i hi => ⟨_, (World.rowIs_made w (.slice none 0 0) n T).cell hi⟩, fun _ => none, fun _ => 0, fun _ => 0, ⟨fun i hi => absurd hi (by omega), fun i hi => absurd hi (by omega), fun i hi => absurd hi (by omega), fun i hi => absurd hi (by omega), fun i j hi => absurd hi (by omega)⟩⟩
set_option maxHeartbeats 1000000 in
theorem to_rows (a : Option Addr) (cap n : Nat) (D : Nat → List Wy) (w : World) (hs : RSeg w a n D) (hn : n ≤ 1048576) (ht : tot D n ≤ 1048576) :
    Calls Try.prog 70 #[.slice a n cap] w fun e w' => e = .returned (.slice (some ⟨w.heap.size, 0, none⟩) n n) ∧ Below w.heap.size w w' ∧ ORows w' w.heap.size w'.heap.size (some ⟨w.heap.size, 0, none⟩) n D := by
  have hmk := run_make_rows n hn
  have HS : Hid _ := And.intro hs ht
  clear hs ht
  go_enter Try.func70, Try.ntmps70
  go_wp2
  go_loopw [4] (fun i wr => ∃ k : Nat, k ≤ n ∧ i = .int .i64 k ∧ Hid (Below w.heap.size w wr ∧ ∃ m, Rsb wr w.heap.size m w.heap.size n k D)) (fun i _ => n - (intOf i).toNat)
  case atStart => exact ⟨0, by omega, rfl, (Below.refl _ _).alloc (Nat.le_refl _) _, _, Rsb.made w n 88 D⟩
  case round =>
    obtain ⟨k, hk, rfl, HB⟩ := hrel
    by_cases hlt : k < n
    · have hlt' : (k : Int) < (n : Int) := by omega
      obtain ⟨b1, o1, a1, cc, rfl, hbl1, e1, s1⟩ := RSeg.at (w := w) HS.out.1 k hlt
      obtain ⟨hb, m, hr⟩ := HB.out
      replace e1 := (hb.cell (p := ⟨b1, o1 + k, none⟩) hbl1).trans e1
      have HC : Hid (Calls Try.prog 90 #[.slice a1 (D k).length cc] wr fun e w' => e = .returned (.slice (some ⟨wr.heap.size, 0, none⟩) (D k).length (D k).length) ∧ Below wr.heap.size wr w' ∧ PairBlk w' wr.heap.size 0 (D k).length (D k).length (D k)) :=
        to_ways a1 cc (D k).length (D k) wr (s1.below hb) rfl (Nat.le_trans (tot_row D hlt) HS.out.2)
      obtain ⟨len, HL⟩ : ∃ len, Hid ((D k).length = len) := ⟨_, rfl⟩
      have hm := hr.mle
      rw [HL.out] at e1 HC
      clear hbl1 s1 HB
      go_wp2_with fail
      refine HC.out.mono ?_
      rintro u w2 ⟨rfl, hbb, hpb⟩
      have hr2 := hr.below hbb
      have hb2 := hb.trans (hbb.mono hb.size)
      obtain ⟨u1, hu1⟩ := hr2.room k hlt
      have hf := hr2.free
      have hsz := hbb.size
      have hr3 := hr2.put hlt (some ⟨wr.heap.size, 0, none⟩) len wr.heap.size w2.heap.size (fun _ => hm) (hpb.ow HL.out _ _ hb.size hpb.lt) (by rw [HL.out]; exact Nat.le_refl _) (by omega) (Nat.le_refl _)
      rw [HL.out] at hr3
      have HB3 : Hid (Below w.heap.size w (w2.setCell ⟨w.heap.size, k, none⟩ (.slice (some ⟨wr.heap.size, 0, none⟩) len len)) ∧ ∃ m, Rsb (w2.setCell ⟨w.heap.size, k, none⟩ (.slice (some ⟨wr.heap.size, 0, none⟩) len len)) w.heap.size m w.heap.size n (k + 1) D) :=
        ⟨hb2.setCell (p := ⟨w.heap.size, k, none⟩) (Nat.le_refl _) _, _, hr3⟩
      clear hbb hpb hr2 hb2 hr3 hr hb e1 hm hsz HC
      go_wp2
      go_roundw
      case rel => exact ⟨k + 1, by omega, by go_num, HB3⟩
      case measure => simp [intOf]; omega
    · obtain rfl : k = n := by omega
      go_wp2
      go_ret
      obtain ⟨hb, m, hr⟩ := HB.out
      exact ⟨rfl, hb, hr.rows'.wide (Nat.le_refl _) hr.mle⟩
set_option maxHeartbeats 1000000 in
theorem to_cache (s y l : Int) (a : Option Addr) (cap n : Nat) (D : Nat → List Wy) (w : World) (hs : RSeg w a n D) (hn : n ≤ 1048576) (ht : tot D n ≤ 1048576) :
    Calls Try.prog 29 #[cch s y l (.slice a n cap)] w fun e w' => ∃ a', e = .returned (cch s y l (.slice a' n n)) ∧ Below w.heap.size w w' ∧ ORows w' w.heap.size w'.heap.size a' n D := by
  have HS : Hid _ := hs
  clear hs
  go_enter Try.func29, Try.ntmps29
  go_wp2_with fail
  refine (to_shape s y l _).mono ?_
  rintro u w1 ⟨rfl, hb1⟩
  have B0 := ((Bk.new w #[.int .i64 s, .int .i64 y, .int .i64 l, .slice a n cap] 49 w.heap.size rfl).alloc (.cells #[.int .i64 0, .int .i64 0, .int .i64 0, .slice none 0 0] 43)).alloc (.cells #[.int .i64 0, .int .i64 0, .int .i64 0, .slice none 0 0] 43) |>.below hb1
  have B1 := (Bk.new (w.alloc (.cells #[.int .i64 s, .int .i64 y, .int .i64 l, .slice a n cap] 49)) #[.int .i64 0, .int .i64 0, .int .i64 0, .slice none 0 0] 43 (w.heap.size + 1) (by simp)).alloc (.cells #[.int .i64 0, .int .i64 0, .int .i64 0, .slice none 0 0] 43) |>.below hb1
  have B2 := (Bk.new ((w.alloc (.cells #[.int .i64 s, .int .i64 y, .int .i64 l, .slice a n cap] 49)).alloc (.cells #[.int .i64 0, .int .i64 0, .int .i64 0, .slice none 0 0] 43)) #[.int .i64 0, .int .i64 0, .int .i64 0, .slice none 0 0] 43 (w.heap.size + 1 + 1) (by simp)).below hb1
  have hbw : Below w.heap.size w w1 := (((Below.refl _ w).alloc (Nat.le_refl _) _).alloc (by simp) _).alloc (by simp; omega) _ |>.trans (hb1.mono (by simp; omega))
  have hsz1 : w.heap.size + 1 + 1 < w1.heap.size := B2.lt
  clear hb1
  have C0 := ((B0.other (w.heap.size + 1 + 1) 0 (.int .i64 s) (by omega)).other (w.heap.size + 1 + 1) 1 (.int .i64 y) (by omega)).other (w.heap.size + 1 + 1) 2 (.int .i64 l) (by omega)
  have C1 := ((B1.other (w.heap.size + 1 + 1) 0 (.int .i64 s) (by omega)).other (w.heap.size + 1 + 1) 1 (.int .i64 y) (by omega)).other (w.heap.size + 1 + 1) 2 (.int .i64 l) (by omega)
  have C2 := ((B2.set 0 (.int .i64 s) (by simp) rfl).set 1 (.int .i64 y) (by simp) rfl).set 2 (.int .i64 l) (by simp) rfl
  have hbw2 : Below w.heap.size w (((w1.setCell ⟨w.heap.size + 1 + 1, 0, none⟩ (.int .i64 s)).setCell ⟨w.heap.size + 1 + 1, 1, none⟩ (.int .i64 y)).setCell ⟨w.heap.size + 1 + 1, 2, none⟩ (.int .i64 l)) :=
    ((hbw.setCell (p := ⟨w.heap.size + 1 + 1, 0, none⟩) (by simp; omega) _).setCell (p := ⟨w.heap.size + 1 + 1, 1, none⟩) (by simp; omega) _).setCell (p := ⟨w.heap.size + 1 + 1, 2, none⟩) (by simp; omega) _
  have k0 := B2.cell 0 _ rfl
  have k1 := (B2.set 0 (.int .i64 s) (by simp) rfl).cell 1 _ rfl
  have k2 := ((B2.set 0 (.int .i64 s) (by simp) rfl).set 1 (.int .i64 y) (by simp) rfl).cell 2 _ rfl
  have kf := B2.free
  have kr := C0.cell 3 _ rfl
  have HK : Hid _ := And.intro C0 (And.intro C1 (And.intro C2 hbw2))
  clear B0 B1 B2 C0 C1 C2 hbw2 hbw
  go_wp2_with fail
  refine (to_rows a cap n D _ (RSeg.below HS.out HK.out.2.2.2) hn ht).mono ?_
  rintro u w2 ⟨rfl, hb2, hrows⟩
  obtain ⟨C0, C1, C2, hbw2⟩ := HK.out
  have hz : (((w1.setCell ⟨w.heap.size + 1 + 1, 0, none⟩ (.int .i64 s)).setCell ⟨w.heap.size + 1 + 1, 1, none⟩ (.int .i64 y)).setCell ⟨w.heap.size + 1 + 1, 2, none⟩ (.int .i64 l)).heap.size = w1.heap.size := by simp
  rw [hz] at hrows hb2
  have D1 := C1.below (hz ▸ hb2)
  have D2 := C2.below (hz ▸ hb2)
  have hbw3 := hbw2.trans (hb2.mono (by omega))
  have E2 := D2.set 3 (.slice (some ⟨w1.heap.size, 0, none⟩) n n) (by simp) rfl
  have E1 := D1.other (w.heap.size + 1 + 1) 3 (.slice (some ⟨w1.heap.size, 0, none⟩) n n) (by omega)
  have F1 := E1.set 0 (.int .i64 s) (by simp) rfl
  have F2 := F1.set 1 (.int .i64 y) (by simp) rfl
  have F3 := F2.set 2 (.int .i64 l) (by simp) rfl
  have F4 := F3.set 3 (.slice (some ⟨w1.heap.size, 0, none⟩) n n) (by simp) rfl
  have q3 := D2.cell 3 _ rfl
  have g2 := D2.free
  have g1 := D1.free
  have e0 := E2.cell 0 _ rfl
  have e1 := E2.cell 1 _ rfl
  have e2 := E2.cell 2 _ rfl
  have e3 := E2.cell 3 _ rfl
  have m0 := E1.cell 0 _ rfl
  have m1 := F1.cell 1 _ rfl
  have m2 := F2.cell 2 _ rfl
  have m3 := F3.cell 3 _ rfl
  have n0 := F4.cell 0 _ rfl
  have n1 := F4.cell 1 _ rfl
  have n2 := F4.cell 2 _ rfl
  have n3 := F4.cell 3 _ rfl
  have HZ : Hid _ := And.intro hrows hbw3
  simp only [hz]
  clear C0 C1 C2 hbw2 hb2 D1 D2 E1 E2 F1 F2 F3 F4 HK hrows hbw3 hz k0 k1 k2 kf kr
  go_wp2
  refine bodyPost_ret (v := cch s y l (.slice (some ⟨w1.heap.size, 0, none⟩) n n)) (by simp [results, Try.results29, go_sem, n0, n1, n2, n3]) rfl ⟨_, rfl, ?_, ?_⟩
  · exact ((((HZ.out.2.setCell (p := ⟨w.heap.size + 1 + 1, 3, none⟩) (by simp; omega) _).setCell (p := ⟨w.heap.size + 1, 0, none⟩) (by simp) _).setCell (p := ⟨w.heap.size + 1, 1, none⟩) (by simp) _).setCell (p := ⟨w.heap.size + 1, 2, none⟩) (by simp) _).setCell (p := ⟨w.heap.size + 1, 3, none⟩) (by simp) _
  · have hbt := (((((Betw.refl (w.heap.size + 1) (w.heap.size + 1 + 1 + 1) w2).setCell (p := ⟨w.heap.size + 1 + 1, 3, none⟩) (by simp) (by simp) (.slice (some ⟨w1.heap.size, 0, none⟩) n n)).setCell (p := ⟨w.heap.size + 1, 0, none⟩) (by simp) (by simp) (.int .i64 s)).setCell (p := ⟨w.heap.size + 1, 1, none⟩) (by simp) (by simp) (.int .i64 y)).setCell (p := ⟨w.heap.size + 1, 2, none⟩) (by simp) (by simp) (.int .i64 l)).setCell (p := ⟨w.heap.size + 1, 3, none⟩) (by simp) (by simp) (.slice (some ⟨w1.heap.size, 0, none⟩) n n)
    exact ((HZ.out.1.betw hbt (.inr (by omega))).wide (by omega) (by simp))
end Go.Proofs.Ytifgmgehnbkbjaa
