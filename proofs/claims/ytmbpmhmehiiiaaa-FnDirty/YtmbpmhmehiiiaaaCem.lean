
/-
  The empty cache: the specification's and the program's own functions answer alike. No conditions but those that each fact names.
-/
import Derived.Test.YtmbpmhmehiiiaaaRows
import Derived.Test.YtmbpmhmehiiiaaaWap
import Derived.Test.YtmbpmhmehiiiaaaWto
namespace Go.Proofs.Ytmbpmhmehiiiaaa
open Go.ChangeShapes Go.WideShapes Go.ChangeAt Go.RowKit Go.Deep
set_option linter.unusedVariables false

abbrev noD : Nat → List Wy := fun _ => []
theorem tot_no (n : Nat) : tot noD n = 0 := by
  induction n with
  | zero => rfl
  | succ n ih => simp only [tot]; rw [ih]; rfl
set_option maxHeartbeats 1000000 in
theorem spec_cem_no (s y l : Int) (w : World) (hsh : shapeOk s y l = false) :
    Calls Try.prog 23 #[shp s y l] w fun e w' => e = .returned (cch 0 0 0 (.slice none 0 0)) ∧ Below w.heap.size w w' := by
  go_enter Try.func23, Try.ntmps23
  go_wp2_with fail
  refine (spec_shok s y l _).mono ?_
  rintro u w1 ⟨rfl, hb1⟩
  rw [hsh]
  have hbw := (((Below.refl _ w).alloc (Nat.le_refl _) (shrow 25 s y l)).alloc (by simp) (.cells #[.int .i64 0, .int .i64 0, .int .i64 0, .slice none 0 0] 34)).trans (hb1.mono (by simp; omega))
  have B1 := (Bk.new (w.alloc (shrow 25 s y l)) #[.int .i64 0, .int .i64 0, .int .i64 0, .slice none 0 0] 34 (w.heap.size + 1) (by simp)).below hb1
  have C0 := B1.set 0 (.int .i64 0) (by simp) rfl
  have C1 := C0.set 1 (.int .i64 0) (by simp) rfl
  have C2 := C1.set 2 (.int .i64 0) (by simp) rfl
  have C3 := C2.set 3 (.slice none 0 0) (by simp) rfl
  have f := B1.free
  have m0 := B1.cell 0 _ rfl
  have m1 := C0.cell 1 _ rfl
  have m2 := C1.cell 2 _ rfl
  have m3 := C2.cell 3 _ rfl
  have n0 := C3.cell 0 _ rfl
  have n1 := C3.cell 1 _ rfl
  have n2 := C3.cell 2 _ rfl
  have n3 := C3.cell 3 _ rfl
  have HB : Hid _ := hbw
  clear hb1 hbw B1 C0 C1 C2 C3
  go_wp2
  exact bodyPost_ret (v := cch 0 0 0 (.slice none 0 0)) (by simp [results, Try.results23, go_sem, n0, n1, n2, n3]) rfl ⟨rfl, (((HB.out.setCell (p := ⟨w.heap.size + 1, 0, none⟩) (by simp) _).setCell (p := ⟨w.heap.size + 1, 1, none⟩) (by simp) _).setCell (p := ⟨w.heap.size + 1, 2, none⟩) (by simp) _).setCell (p := ⟨w.heap.size + 1, 3, none⟩) (by simp) _⟩
set_option maxHeartbeats 1000000 in
theorem impl_cem_no (s y l : Int) (w : World) (hsh : shapeOk s y l = false) :
    Calls Try.prog 8 #[shp s y l] w fun e w' => e = .returned (cch 0 0 0 (.slice none 0 0)) ∧ Below w.heap.size w w' := by
  go_enter Try.func8, Try.ntmps8
  go_wp2_with fail
  refine (impl_shok s y l _).mono ?_
  rintro u w1 ⟨rfl, hb1⟩
  rw [hsh]
  have hbw := (((Below.refl _ w).alloc (Nat.le_refl _) (shrow 25 s y l)).alloc (by simp) (.cells #[.int .i64 0, .int .i64 0, .int .i64 0, .slice none 0 0] 34)).trans (hb1.mono (by simp; omega))
  have B1 := (Bk.new (w.alloc (shrow 25 s y l)) #[.int .i64 0, .int .i64 0, .int .i64 0, .slice none 0 0] 34 (w.heap.size + 1) (by simp)).below hb1
  have C0 := B1.set 0 (.int .i64 0) (by simp) rfl
  have C1 := C0.set 1 (.int .i64 0) (by simp) rfl
  have C2 := C1.set 2 (.int .i64 0) (by simp) rfl
  have C3 := C2.set 3 (.slice none 0 0) (by simp) rfl
  have f := B1.free
  have m0 := B1.cell 0 _ rfl
  have m1 := C0.cell 1 _ rfl
  have m2 := C1.cell 2 _ rfl
  have m3 := C2.cell 3 _ rfl
  have n0 := C3.cell 0 _ rfl
  have n1 := C3.cell 1 _ rfl
  have n2 := C3.cell 2 _ rfl
  have n3 := C3.cell 3 _ rfl
  have HB : Hid _ := hbw
  clear hb1 hbw B1 C0 C1 C2 C3
  go_wp2
  exact bodyPost_ret (v := cch 0 0 0 (.slice none 0 0)) (by simp [results, Try.results8, go_sem, n0, n1, n2, n3]) rfl ⟨rfl, (((HB.out.setCell (p := ⟨w.heap.size + 1, 0, none⟩) (by simp) _).setCell (p := ⟨w.heap.size + 1, 1, none⟩) (by simp) _).setCell (p := ⟨w.heap.size + 1, 2, none⟩) (by simp) _).setCell (p := ⟨w.heap.size + 1, 3, none⟩) (by simp) _⟩
/-- Four cells of a block are written over. -/
theorem below_four {B : Nat} {a w : World} (h : Below B a w) (b : Nat) (hb : B ≤ b) (v0 v1 v2 v3 : Value) : Below B a ((((w.setCell ⟨b, 0, none⟩ v0).setCell ⟨b, 1, none⟩ v1).setCell ⟨b, 2, none⟩ v2).setCell ⟨b, 3, none⟩ v3) :=
  (((h.setCell (p := ⟨b, 0, none⟩) hb _).setCell (p := ⟨b, 1, none⟩) hb _).setCell (p := ⟨b, 2, none⟩) hb _).setCell (p := ⟨b, 3, none⟩) hb _
theorem betw_four {lo hi : Nat} {a w : World} (h : Betw lo hi a w) (b : Nat) (h1 : lo ≤ b) (h2 : b < hi) (v0 v1 v2 v3 : Value) : Betw lo hi a ((((w.setCell ⟨b, 0, none⟩ v0).setCell ⟨b, 1, none⟩ v1).setCell ⟨b, 2, none⟩ v2).setCell ⟨b, 3, none⟩ v3) :=
  (((h.setCell (p := ⟨b, 0, none⟩) h1 h2 _).setCell (p := ⟨b, 1, none⟩) h1 h2 _).setCell (p := ⟨b, 2, none⟩) h1 h2 _).setCell (p := ⟨b, 3, none⟩) h1 h2 _
theorem Rsb.made' (V : World) (lo n : Nat) (T : TypeId) (D : Nat → List Wy) (h : lo ≤ V.heap.size) : Rsb (V.alloc (.cells (madeCells #[.slice none 0 0] n) T)).drew lo (V.alloc (.cells (madeCells #[.slice none 0 0] n) T)).drew.heap.size V.heap.size n 0 D := by
  refine ⟨?_, Nat.le_refl _, h, fun j => ?_, fun i hi => ⟨_, (World.rowIs_made V (.slice none 0 0) n T).cell hi⟩, fun _ => none, fun _ => 0, fun _ => 0, ⟨fun i hi => absurd hi (by omega), fun i hi => absurd hi (by omega), fun i hi => absurd hi (by omega), fun i hi => absurd hi (by omega), fun i j hi => absurd hi (by omega)⟩⟩
  · show V.heap.size < (V.alloc _).heap.size
    simp
  · show (V.alloc _).frozen? _ = false
    simp
theorem rows_empty {w : World} {lo m B n : Nat} {D : Nat → List Wy} (h : Rsb w lo m B n 0 D) (hc : ∀ i, i < n → w.cell? ⟨B, i, none⟩ = some (.slice none 0 0)) : ORows w lo m (some ⟨B, 0, none⟩) n noD :=
  ⟨B, 0, fun _ => none, fun _ => 0, fun _ => 0, fun _ => ⟨rfl, h.low, h.lt, Nat.lt_of_lt_of_le h.lt h.mle⟩, ⟨fun i hi => by rw [Nat.zero_add]; exact hc i hi, fun i hi => Nat.le_refl _, fun i hi => OW.nil _ _ _ _ _, fun i hi h0 => absurd h0 (by simp), fun i j hi hj hne h0 => absurd h0 (by simp)⟩⟩
set_option maxHeartbeats 2000000 in
theorem impl_cem (n : Nat) (y l : Int) (w : World) (hsh : shapeOk (n : Int) y l = true) :
    Calls Try.prog 8 #[shp (n : Int) y l] w fun e w' => ∃ B, e = .returned (cch (n : Int) y l (.slice (some ⟨B, 0, none⟩) n n)) ∧ Below w.heap.size w w' ∧ Rsb w' w.heap.size w'.heap.size B n 0 noD ∧ ∀ i, i < n → w'.cell? ⟨B, i, none⟩ = some (.slice none 0 0) := by
  have hp := shapeOk_parts hsh
  have hn : n ≤ 16 := by omega
  have hmk := run_make_rows n (by omega)
  clear hp
  go_enter Try.func8, Try.ntmps8
  go_wp2_with fail
  refine (impl_shok (n : Int) y l _).mono ?_
  rintro u w1 ⟨rfl, hb1⟩
  rw [hsh]
  have hbw := (((Below.refl _ w).alloc (Nat.le_refl _) (shrow 25 n y l)).alloc (by simp) (.cells #[.int .i64 0, .int .i64 0, .int .i64 0, .slice none 0 0] 34)).trans (hb1.mono (by simp; omega))
  have B0 := ((Bk.new w #[.int .i64 n, .int .i64 y, .int .i64 l] 25 w.heap.size rfl).alloc (.cells #[.int .i64 0, .int .i64 0, .int .i64 0, .slice none 0 0] 34)).below hb1
  have B1 := (Bk.new (w.alloc (shrow 25 n y l)) #[.int .i64 0, .int .i64 0, .int .i64 0, .slice none 0 0] 34 (w.heap.size + 1) (by simp)).below hb1
  have hlt1 := B1.lt
  have C0 := B1.set 0 (.int .i64 n) (by simp) rfl
  have C1 := C0.set 1 (.int .i64 y) (by simp) rfl
  have C2 := C1.set 2 (.int .i64 l) (by simp) rfl
  have C3 := (C2.set 3 (.slice (some ⟨w1.heap.size, 0, none⟩) n n) (by simp) rfl).alloc (.cells (madeCells #[.slice none 0 0] n) 68)
  have f := B1.free
  have j0 := B0.cell 0 _ rfl
  have j1 := B0.cell 1 _ rfl
  have j2 := B0.cell 2 _ rfl
  have k0 := cell_alloc_l (.cells (madeCells #[.slice none 0 0] n) 68) (B0.cell 0 _ rfl)
  have k1 := cell_alloc_l (.cells (madeCells #[.slice none 0 0] n) 68) (B0.cell 1 _ rfl)
  have k2 := cell_alloc_l (.cells (madeCells #[.slice none 0 0] n) 68) (B0.cell 2 _ rfl)
  have m0 := B1.cell 0 _ rfl
  have m1 := C0.cell 1 _ rfl
  have m2 := C1.cell 2 _ rfl
  have m3 := C2.cell 3 _ rfl
  have n0 := C3.cell 0 _ rfl
  have n1 := C3.cell 1 _ rfl
  have n2 := C3.cell 2 _ rfl
  have n3 := C3.cell 3 _ rfl
  have hne : ¬ (w.heap.size + 1 = w1.heap.size) := by omega
  have hne' : ¬ (w1.heap.size = w.heap.size + 1) := by omega
  have HB : Hid _ := hbw
  clear hb1 hbw B0 B1 C0 C1 C2 C3
  go_wp2
  go_region
  all_goals go_wp2
  refine bodyPost_ret (v := cch (n : Int) y l (.slice (some ⟨w1.heap.size, 0, none⟩) n n)) (by simp [results, Try.results8, go_sem, n0, n1, n2, n3]) rfl ⟨w1.heap.size, rfl, ?_, ?_, fun i hi => ?_⟩
  · exact ((below_four HB.out (w.heap.size + 1) (by omega) _ _ _ _).alloc (by simp; omega) _).drew
  · have := Rsb.made' ((((w1.setCell ⟨w.heap.size + 1, 0, none⟩ (.int .i64 n)).setCell ⟨w.heap.size + 1, 1, none⟩ (.int .i64 y)).setCell ⟨w.heap.size + 1, 2, none⟩ (.int .i64 l)).setCell ⟨w.heap.size + 1, 3, none⟩ (.slice (some ⟨w1.heap.size, 0, none⟩) n n)) w.heap.size n 68 noD (by simp; omega)
    simpa using this
  · have := (World.rowIs_made ((((w1.setCell ⟨w.heap.size + 1, 0, none⟩ (.int .i64 n)).setCell ⟨w.heap.size + 1, 1, none⟩ (.int .i64 y)).setCell ⟨w.heap.size + 1, 2, none⟩ (.int .i64 l)).setCell ⟨w.heap.size + 1, 3, none⟩ (.slice (some ⟨w1.heap.size, 0, none⟩) n n)) (.slice none 0 0) n 68).cell hi
    have hz : ((((w1.setCell ⟨w.heap.size + 1, 0, none⟩ (.int .i64 n)).setCell ⟨w.heap.size + 1, 1, none⟩ (.int .i64 y)).setCell ⟨w.heap.size + 1, 2, none⟩ (.int .i64 l)).setCell ⟨w.heap.size + 1, 3, none⟩ (.slice (some ⟨w1.heap.size, 0, none⟩) n n)).heap.size = w1.heap.size := by simp
    rw [hz] at this
    exact this
set_option maxHeartbeats 2000000 in
theorem spec_cem (n : Nat) (y l : Int) (w : World) (hsh : shapeOk (n : Int) y l = true) :
    Calls Try.prog 23 #[shp (n : Int) y l] w fun e w' => ∃ a cap, e = .returned (cch (n : Int) y l (.slice a n cap)) ∧ Below w.heap.size w w' ∧ ORows w' w.heap.size w'.heap.size a n noD := by
  have hp := shapeOk_parts hsh
  have hn : n ≤ 16 := by omega
  obtain ⟨iR, hi1, hi2, hi3, hi4⟩ := infoR'
  have HI : Hid _ := And.intro hi1 (And.intro hi2 (And.intro hi3 hi4))
  clear hp hi1 hi2 hi3 hi4
  go_enter Try.func23, Try.ntmps23
  go_wp2_with fail
  refine (spec_shok (n : Int) y l _).mono ?_
  rintro u w1 ⟨rfl, hb1⟩
  rw [hsh]
  have hbw := (((Below.refl _ w).alloc (Nat.le_refl _) (shrow 25 n y l)).alloc (by simp) (.cells #[.int .i64 0, .int .i64 0, .int .i64 0, .slice none 0 0] 34)).trans (hb1.mono (by simp; omega))
  have B0 := ((Bk.new w #[.int .i64 n, .int .i64 y, .int .i64 l] 25 w.heap.size rfl).alloc (.cells #[.int .i64 0, .int .i64 0, .int .i64 0, .slice none 0 0] 34)).below hb1
  have B1 := (Bk.new (w.alloc (shrow 25 n y l)) #[.int .i64 0, .int .i64 0, .int .i64 0, .slice none 0 0] 34 (w.heap.size + 1) (by simp)).below hb1
  have hlt1 := B1.lt
  have k0 := B0.cell 0 _ rfl
  have k1 := B0.cell 1 _ rfl
  have k2 := B0.cell 2 _ rfl
  have A0 : Hid _ := B0.alloc (.cells #[.int .i64 n, .int .i64 y, .int .i64 l, .slice none 0 0] 34)
  have A1 : Hid _ := B1.alloc (.cells #[.int .i64 n, .int .i64 y, .int .i64 l, .slice none 0 0] 34)
  have A3 : Hid _ := Bk.new w1 #[.int .i64 n, .int .i64 y, .int .i64 l, .slice none 0 0] 34 w1.heap.size rfl
  have HB : Hid _ := hbw.alloc hbw.size (.cells #[.int .i64 n, .int .i64 y, .int .i64 l, .slice none 0 0] 34)
  clear hb1 hbw B0 B1
  go_wp2
  clear k0 k1 k2
  go_loopw [4] (fun i wr => ∃ k : Nat, k ≤ n ∧ i = .int .i64 k ∧ w1.heap.size + 1 ≤ wr.heap.size ∧ Hid (Below w.heap.size w wr ∧ Bk wr w.heap.size #[.int .i64 n, .int .i64 y, .int .i64 l] ∧ Bk wr (w.heap.size + 1) #[.int .i64 0, .int .i64 0, .int .i64 0, .slice none 0 0] ∧ ∃ v m A C R, Bk wr w1.heap.size #[.int .i64 n, .int .i64 y, .int .i64 l, v] ∧ Rla wr (w1.heap.size + 1) m v k noD A C R)) (fun i _ => n - (intOf i).toNat)
  case atStart => exact ⟨0, by omega, rfl, by simp, HB.out, A0.out, A1.out, _, w1.heap.size + 1, fun _ => none, fun _ => 0, fun _ => 0, A3.out, Rla.none _ _ _ _ _ _ _ (by simp)⟩
  case round =>
    obtain ⟨k, hk, rfl, hsz, HR⟩ := hrel
    clear A0 A1 A3 HB
    obtain ⟨hb, B0, B1, v, m, A, C, R, B3, hr⟩ := HR.out
    have j0 := B0.cell 0 _ rfl
    by_cases hlt : k < n
    rotate_left
    · obtain rfl : k = n := by omega
      obtain ⟨a, cap, rfl, hrows⟩ := hr.rows
      have c0 := B3.cell 0 _ rfl
      have c1 := B3.cell 1 _ rfl
      have c2 := B3.cell 2 _ rfl
      have c3 := B3.cell 3 _ rfl
      have C0 := B1.set 0 (.int .i64 k) (by simp) rfl
      have C1 := C0.set 1 (.int .i64 y) (by simp) rfl
      have C2 := C1.set 2 (.int .i64 l) (by simp) rfl
      have C3 := C2.set 3 (.slice a k cap) (by simp) rfl
      have f := B1.free
      have m0 := B1.cell 0 _ rfl
      have m1 := C0.cell 1 _ rfl
      have m2 := C1.cell 2 _ rfl
      have m3 := C2.cell 3 _ rfl
      have n0 := C3.cell 0 _ rfl
      have n1 := C3.cell 1 _ rfl
      have n2 := C3.cell 2 _ rfl
      have n3 := C3.cell 3 _ rfl
      have HZ : Hid _ := And.intro hrows (And.intro hb hr.mle)
      clear hrows hb hr B0 B1 B3 C0 C1 C2 C3 HR
      go_wp2
      refine bodyPost_ret (v := cch (k : Int) y l (.slice a k cap)) (by simp [results, Try.results23, go_sem, n0, n1, n2, n3]) rfl ⟨a, cap, rfl, ?_, ?_⟩
      · exact below_four HZ.out.2.1 (w.heap.size + 1) (by omega) _ _ _ _
      · have hbt := betw_four (Betw.refl (w.heap.size + 1) (w.heap.size + 1 + 1) wr) (w.heap.size + 1) (Nat.le_refl _) (by omega) (.int .i64 k) (.int .i64 y) (.int .i64 l) (.slice a k cap)
        exact (HZ.out.1.betw hbt (.inr (by omega))).wide (by omega) (by have := HZ.out.2.2; simpa using this)
    have hlt' : (k : Int) < (n : Int) := by omega
    obtain ⟨av, cv, rfl⟩ := hr.form
    have c3 := B3.cell 3 _ rfl
    have f3 := B3.free
    have hal1 : Below wr.heap.size wr (wr.alloc (.cells #[] 61)) := (Below.refl _ _).alloc (Nat.le_refl _) _
    have hal : Below wr.heap.size wr ((wr.alloc (.cells #[] 61)).alloc (.cells #[.slice (some ⟨wr.heap.size, 0, none⟩) 0 0] 68)) := hal1.alloc hal1.size _
    have hr2 := hr.below hal
    have HR2 : Hid _ := hr2
    have hown := hr2.own
    have hlow := own_low hown
    have HX : Hid (∀ w9, ((wr.alloc (.cells #[] 61)).alloc (.cells #[.slice (some ⟨wr.heap.size, 0, none⟩) 0 0] 68)).grownBy w9 (Value.slice av k cv).ownBlock → Bk w9 w1.heap.size #[.int .i64 n, .int .i64 y, .int .i64 l, .slice av k cv] ∧ Bk w9 w.heap.size #[.int .i64 n, .int .i64 y, .int .i64 l] ∧ Bk w9 (w.heap.size + 1) #[.int .i64 0, .int .i64 0, .int .i64 0, .slice none 0 0] ∧ Below w.heap.size w w9 ∧ w1.heap.size + 1 ≤ w9.heap.size) := fun w9 hg =>
      ⟨(B3.below hal).grown hg hlow (by omega), (B0.below hal).grown hg hlow (by omega), (B1.below hal).grown hg hlow (by omega), (hb.trans (hal.mono hb.size)).grown hg (hb.trans (hal.mono hb.size)).size (fun g e => by have := hlow g e; omega), Nat.le_trans hsz (Nat.le_trans hal.size hg.size)⟩
    clear hb B0 B1 B3 hr hr2 hal1 hal HR hlow f3
    go_wp2_with (at_builtin; (refine wpList_append_lies _ rfl (.tmp 18) (.tmp 20) 32 rfl (w1.heap.size + 1) 68 iR (.slice none 0 0) 1 24 Try.underlying32 HI.out.1 HI.out.2.1 HI.out.2.2.1 HI.out.2.2.2 rfl (by omega) _ _ _ rfl hown _ 1 1 [.slice (some ⟨wr.heap.size, 0, none⟩) 0 0] rfl rfl (news_at _ _ _ _ (by simp)) (one_slice _ _ _) (by omega) (by unfold maxLen; omega) (by omega) (by simp; omega) _ rfl ?_; intro g cap1 w9 hown1 hgrow hat hlt1; have HY : Hid _ := And.intro (HX.out w9 hgrow) (And.intro hown1 (And.intro hgrow (And.intro hat hlt1))); have c9 := (HX.out w9 hgrow).1.cell 3 _ rfl; have f9 := (HX.out w9 hgrow).1.free; clear hown1 hgrow hat hlt1))
    go_roundw
    case rel =>
      obtain ⟨⟨B3, B0, B1, hb9, hs9⟩, hown1, hgrow, hat, hlt1⟩ := HY.out
      have h2 := HR2.out.step (some ⟨wr.heap.size, 0, none⟩) 0 0 _ g cap1 (OW.nil _ _ _ _ _) (fun h => absurd h (by simp)) (by simp) hown1 hgrow hat rfl hlt1
      exact ⟨k + 1, by omega, by go_num, by simpa using hs9, hb9.setCell (p := ⟨w1.heap.size, 3, none⟩) (by simp; omega) _, B0.other _ _ _ (by omega), B1.other _ _ _ (by omega), _, _, _, _, _, B3.set 3 _ (by simp) rfl, h2.betw ((Betw.refl w1.heap.size (w1.heap.size + 1) w9).setCell (p := ⟨w1.heap.size, 3, none⟩) (Nat.le_refl _) (Nat.lt_succ_self _) _) (Nat.le_refl _)⟩
    case measure => simp [intOf]; omega
end Go.Proofs.Ytmbpmhmehiiiaaa
