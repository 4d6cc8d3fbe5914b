
/-
  FeedOk of both sides: whether the rows of a feed are right, and in order. Conditions: the lists lie in memory; the program's table of extras holds what the program's text lays.
-/
import Derived.Test.YtiheojmknhgjfaaGreatDoorBas
import Derived.Test.YtiheojmknhgjfaaGreatDoorFki
import Derived.Test.YtiheojmknhgjfaaGreatDoorFks
import Derived.Test.YtiheojmknhgjfaaGreatDoorLsw
import Derived.Test.YtiheojmknhgjfaaGreatDoorTia
import Derived.Test.YtiheojmknhgjfaaGreatDoorClo6
namespace Go.Proofs.YtiheojmknhgjfaaGreatDoor
open Go.ChangeShapes Go.WideShapes Go.ChangeAt Go.RowKit Go.Deep Go.Joins
set_option linter.unusedVariables false

def befY (Y : Nat → Fr) : Nat → Int
  | 0 => 0
  | i + 1 => (Y i).cy
def RowsY (t : Tb) (p : Int) (n : Nat) (Y : Nat → Fr) : Prop := ∀ i, i < n → FRow t p (Y i).kd (Y i).at_ (Y i).hd (Y i).wn
def OrdY (c : Int) (n : Nat) (Y : Nat → Fr) : Prop := ∀ i, i < n → befY Y i ≤ (Y i).cy ∧ (Y i).cy ≤ c
def FeedY (t : Tb) (p c : Int) (n : Nat) (Y : Nat → Fr) : Prop := (0 ≤ c ∧ c ≤ 50000) ∧ n ≤ 30000 ∧ (0 ≤ p ∧ p < (t.ps.length : Int)) ∧ OrdY c n Y ∧ RowsY t p n Y
theorem ord_next {c : Int} {m : Nat} {Y : Nat → Fr} (h : OrdY c m Y) (h2 : befY Y m ≤ (Y m).cy ∧ (Y m).cy ≤ c) : OrdY c (m + 1) Y := fun i hi => by
  by_cases e : i = m
  · subst e; exact h2
  · exact h i (by omega)
theorem rows_next {t : Tb} {p : Int} {m : Nat} {Y : Nat → Fr} (h : RowsY t p m Y) (h2 : FRow t p (Y m).kd (Y m).at_ (Y m).hd (Y m).wn) : RowsY t p (m + 1) Y := fun i hi => by
  by_cases e : i = m
  · subst e; exact h2
  · exact h i (by omega)
set_option maxRecDepth 40000 in
set_option maxHeartbeats 8000000 in
theorem fd_every (a : Option Addr) (cap n : Nat) (Y : Nat → Fr) (P : Nat → Bool) (q : Bool) (fid : Nat) (caps : Array Value) (w : World) (hs : GSeg 5 w a n (fun i => frL (Y i))) (hn : n ≤ 9223372036854775807) (hen : ∀ args (v : World), (callFunc fid args).run Tryz.prog v = .ok (.enter fid args) v)
    (hf : ∀ i, i < n → ∀ X, Below w.heap.size w X → Calls Tryz.prog fid (#[frV (Y i)] ++ caps) X fun e w' => e = .returned (.bool (P i)) ∧ Below X.heap.size X w')
    (hq : q = true ↔ ∀ i, i < n → P i = true) :
    Calls Tryz.prog 37 #[.slice a n cap, .func (.func fid) #[] caps] w fun e w' => e = .returned (.bool q) ∧ Below w.heap.size w w' := by
  have HQ : Hid (q = true ↔ ∀ i, i < n → P i = true) := hq
  have HS : Hid (GSeg 5 w a n (fun i => frL (Y i))) := hs
  have HF : Hid (∀ i, i < n → ∀ X, Below w.heap.size w X → Calls Tryz.prog fid (#[frV (Y i)] ++ caps) X fun e w' => e = .returned (.bool (P i)) ∧ Below X.heap.size X w') := hf
  clear hq hs hf
  go_enter Tryz.func37, Tryz.ntmps37
  go_wp2
  go_loopw [9] (fun i wr => ∃ m : Nat, m ≤ n ∧ i = .int .i64 m ∧ Hid (Below w.heap.size w wr ∧ ∀ j, j < m → P j = true)) (fun i _ => n - (intOf i).toNat)
  case atStart => exact ⟨0, by omega, rfl, Below.refl _ _, fun i hi => absurd hi (by omega)⟩
  case round =>
    obtain ⟨m, hm, rfl, HR⟩ := hrel
    by_cases hmn : m < n
    rotate_left
    · obtain rfl : m = n := by omega
      have HT : Hid (q = true) := HQ.out.2 HR.out.2
      go_wp2
      go_ret
      exact ⟨ret_bool HT.out.symm, HR.out.1⟩
    have hmn' : (m : Int) < (n : Int) := by omega
    obtain ⟨b1, o1, rfl, hbl1, p1⟩ := HS.out.at m hmn
    replace p1 := p1.of (w' := wr) (fun j => HR.out.1.cell (p := ⟨b1, j, none⟩) hbl1)
    have HFm : Hid _ := HF.out m hmn
    have HPm : Hid (P m = false → q = false) := fun h => not_true HQ.out (fun g => by rw [g m hmn] at h; cases h)
    have HPt : Hid (P m = true → ∀ j, j < m + 1 → P j = true) := fun h j hj => by
      by_cases e : j = m
      · subst e; exact h
      · exact HR.out.2 j (by omega)
    obtain ⟨c0, c1, c2, c3, c4⟩ := fr_cells p1
    generalize Y m = y at c0 c1 c2 c3 c4 HFm
    generalize P m = pm at HFm HPm HPt
    obtain ⟨cy, kd, at_, hd, wa, wn, wc⟩ := y
    simp only [frV] at c0 c1 c2 c3 c4 HFm
    have hb0 : Hid (Below w.heap.size w (wr.alloc (.cells #[.int .i64 cy, .int .i64 kd, .int .i64 at_, .int .i64 hd, .slice wa wn wc] 67))) := HR.out.1.alloc HR.out.1.size _
    clear p1 hbl1
    go_wp2_with fail
    refine (HFm.out _ hb0.out).mono ?_
    rintro u w1 ⟨rfl, hb1⟩
    have HB1 : Hid (Below w.heap.size w w1) := hb0.out.trans (hb1.mono hb0.out.size)
    clear hb1 hb0 c0 c1 c2 c3 c4
    cases pm
    · have HT : Hid (q = false) := HPm.out (by trivial)
      go_wp2
      go_ret
      exact ⟨ret_bool HT.out.symm, HB1.out⟩
    · have HT : Hid _ := HPt.out (by trivial)
      go_wp2
      go_roundw
      case rel => exact ⟨m + 1, by omega, by go_num, HB1.out, HT.out⟩
      case measure => simp [intOf]; omega
set_option maxRecDepth 40000 in
set_option maxHeartbeats 8000000 in
theorem in_order (a : Option Addr) (cap n : Nat) (Y : Nat → Fr) (c : Int) (q : Bool) (w : World) (hs : GSeg 5 w a n (fun i => frL (Y i))) (hn : n ≤ 9223372036854775807) (hq : q = true ↔ OrdY c n Y) :
    Calls Tryz.prog 36 #[.slice a n cap, .int .i64 c] w fun e w' => e = .returned (.bool q) ∧ Below w.heap.size w w' := by
  have HQ : Hid (q = true ↔ OrdY c n Y) := hq
  have HS : Hid (GSeg 5 w a n (fun i => frL (Y i))) := hs
  clear hq hs
  go_enter Tryz.func36, Tryz.ntmps36
  go_wp2
  go_loopw [5, 10] (fun b i wr => ∃ (m : Nat) (B : Int), m ≤ n ∧ i = .int .i64 m ∧ b = .int .i64 B ∧ Hid (B = befY Y m ∧ Below w.heap.size w wr ∧ OrdY c m Y)) (fun _ i _ => n - (intOf i).toNat)
  case atStart => exact ⟨0, 0, by omega, rfl, rfl, rfl, Below.refl _ _, fun i hi => absurd hi (by omega)⟩
  case round =>
    obtain ⟨m, B, hm, rfl, rfl, HR⟩ := hrel
    by_cases hmn : m < n
    rotate_left
    · obtain rfl : m = n := by omega
      have HT : Hid (q = true) := HQ.out.2 HR.out.2.2
      go_wp2
      go_ret
      exact ⟨ret_bool HT.out.symm, HR.out.2.1⟩
    have hmn' : (m : Int) < (n : Int) := by omega
    obtain ⟨b1, o1, rfl, hbl1, p1⟩ := HS.out.at m hmn
    replace p1 := p1.of (w' := wr) (fun j => HR.out.2.1.cell (p := ⟨b1, j, none⟩) hbl1)
    have HIN : Hid (q = true → B ≤ (Y m).cy ∧ (Y m).cy ≤ c) := fun h => by have := HQ.out.1 h m hmn; rw [← HR.out.1] at this; exact this
    have HNX : Hid (B ≤ (Y m).cy → (Y m).cy ≤ c → OrdY c (m + 1) Y ∧ (Y m).cy = befY Y (m + 1)) := fun h1 h2 => ⟨ord_next HR.out.2.2 (by rw [← HR.out.1]; exact ⟨h1, h2⟩), rfl⟩
    obtain ⟨c0, c1, c2, c3, c4⟩ := fr_cells p1
    generalize Y m = y at c0 c1 c2 c3 c4 HIN HNX
    obtain ⟨cy, kd, at_, hd, wa, wn, wc⟩ := y
    simp only at c0 c1 c2 c3 c4 HIN HNX
    have hb0 : Hid (Below w.heap.size w (wr.alloc (.cells #[.int .i64 cy, .int .i64 kd, .int .i64 at_, .int .i64 hd, .slice wa wn wc] 67))) := HR.out.2.1.alloc HR.out.2.1.size _
    clear p1 hbl1 HR
    by_cases h1 : cy < B
    · have HT : Hid (q = false) := Bool.eq_false_iff.2 (fun h => by have := (HIN.out h).1; omega)
      go_wp2
      go_ret
      exact ⟨ret_bool HT.out.symm, hb0.out⟩
    by_cases h2 : c < cy
    · have HT : Hid (q = false) := Bool.eq_false_iff.2 (fun h => by have := (HIN.out h).2; omega)
      go_wp2
      go_ret
      exact ⟨ret_bool HT.out.symm, hb0.out⟩
    obtain ⟨h3, h4⟩ := HNX.out (by omega) (by omega)
    have H3 : Hid (OrdY c (m + 1) Y ∧ cy = befY Y (m + 1)) := ⟨h3, h4⟩
    clear h3 h4 HIN HNX
    go_wp2
    go_roundw
    case rel => exact ⟨m + 1, cy, by omega, by go_num, rfl, H3.out.2, hb0.out, H3.out.1⟩
    case measure => simp [intOf]; omega
set_option maxRecDepth 20000 in
theorem e_fo1 : ∀ args (v : World), (callFunc 38 args).run Tryz.prog v = .ok (.enter 38 args) v := enters_of Tryz.func38 (by kernel_rfl) rfl
set_option maxRecDepth 40000 in
set_option maxHeartbeats 8000000 in
theorem feed_one (t : Tb) (a : Ad) (p cy kd at_ hd : Int) (wa : Option Addr) (wn wc : Nat) (q : Bool) (B C : Nat) (X : World) (hx : TBx X B t a) (hp : X.cell? ⟨C, 0, none⟩ = some (.int .i64 p)) (hm : TM 0 X t a) (hw : TW t a) (hs : TS a) (hsd : Sd t) (hq : q = true ↔ FRow t p kd at_ hd wn) :
    Calls Tryz.prog 38 #[.agg #[.int .i64 cy, .int .i64 kd, .int .i64 at_, .int .i64 hd, .slice wa wn wc], .pointer (some ⟨B, 0, none⟩), .pointer (some ⟨C, 0, none⟩)] X fun e w' => e = .returned (.bool q) ∧ Below X.heap.size X w' := by
  have hb0 : Below X.heap.size X (X.alloc (.cells #[.int .i64 cy, .int .i64 kd, .int .i64 at_, .int .i64 hd, .slice wa wn wc] 67)) := (Below.refl _ _).alloc (Nat.le_refl _) _
  have HB0 : Hid (Below X.heap.size X (X.alloc (.cells #[.int .i64 cy, .int .i64 kd, .int .i64 at_, .int .i64 hd, .slice wa wn wc] 67))) := hb0
  have HX0 : Hid (TBx (X.alloc (.cells #[.int .i64 cy, .int .i64 kd, .int .i64 at_, .int .i64 hd, .slice wa wn wc] 67)) B t a) := hx.below hb0
  have hc : (X.alloc (.cells #[.int .i64 cy, .int .i64 kd, .int .i64 at_, .int .i64 hd, .slice wa wn wc] 67)).cell? ⟨C, 0, none⟩ = some (.int .i64 p) := kept_cell hb0 hp
  have HF : Hid (Calls Tryz.prog 39 #[tbV t a, .int .i64 p, .agg #[.int .i64 cy, .int .i64 kd, .int .i64 at_, .int .i64 hd, .slice wa wn wc]] (X.alloc (.cells #[.int .i64 cy, .int .i64 kd, .int .i64 at_, .int .i64 hd, .slice wa wn wc] 67)) fun e w' => e = .returned (.bool q) ∧ Below (X.alloc (.cells #[.int .i64 cy, .int .i64 kd, .int .i64 at_, .int .i64 hd, .slice wa wn wc] 67)).heap.size (X.alloc (.cells #[.int .i64 cy, .int .i64 kd, .int .i64 at_, .int .i64 hd, .slice wa wn wc] 67)) w') := impl_feeds t a p cy kd at_ hd wa wn wc q _ (hm.below hb0) hw hs hsd hq
  have hCl : C < X.heap.size := World.block_lt_of_cell? X _ hp
  clear hb0 hx hp hm hw hs hsd hq
  go_enter Tryz.func38, Tryz.ntmps38
  go_wp2_with (first | (refine wpList_load_row rfl 42 (.tmp 1) rfl B rfl 42 (tbA t a) (0, 0) _ HX0.out Tryz.underlying42 rfl (by kernel_rfl) ?_) | fail)
  refine Calls.mono HF.out ?_
  rintro e w1 ⟨rfl, hb1⟩
  have HB1 : Hid (Below X.heap.size X w1) := HB0.out.trans (hb1.mono HB0.out.size)
  clear hb1 HB0 HX0 hc HF
  go_wp2
  go_ret
  exact ⟨rfl, HB1.out⟩
set_option maxRecDepth 40000 in
set_option maxHeartbeats 8000000 in
theorem impl_feedok (t : Tb) (a : Ad) (p c : Int) (A : Option Addr) (cap n : Nat) (Y : Nat → Fr) (q : Bool) (w : World) (hm : TM 0 w t a) (hw : TW t a) (hs : TS a) (he : TabE w) (hcp : a.pn ≤ a.pc) (hf : GSeg 5 w A n (fun i => frL (Y i))) (hn : n ≤ 1048576) (hq : q = true ↔ (Sd t ∧ FeedY t p c n Y)) :
    Calls Tryz.prog 10 #[tbV t a, .int .i64 p, .slice A n cap, .int .i64 c] w fun e w' => e = .returned (.bool q) ∧ Below w.heap.size w w' := by
  have HB0 : Hid (Below w.heap.size w ((w.alloc (.cells (tbA t a) 42)).alloc (.cells #[.int .i64 p] 3))) := ((Below.refl _ _).alloc (Nat.le_refl _) _).alloc (by simp) _
  have HX0 : Hid (TBx ((w.alloc (.cells (tbA t a) 42)).alloc (.cells #[.int .i64 p] 3)) w.heap.size t a) := (TBx.new w t a _ rfl).below ((Below.refl _ _).alloc (Nat.le_refl _) _)
  have HP0 : Hid (((w.alloc (.cells (tbA t a) 42)).alloc (.cells #[.int .i64 p] 3)).cell? ⟨w.heap.size + 1, 0, none⟩ = some (.int .i64 p)) := cell0 (CellsAt.new (w.alloc (.cells (tbA t a) 42)) [.int .i64 p] 3 _ (by simp)) 0 rfl
  have HQ : Hid (q = true ↔ (Sd t ∧ FeedY t p c n Y)) := hq
  have HL : Hid (t.ps.length = a.pn) := hw.pl
  obtain ⟨q1, hq1⟩ := told (Sd t)
  obtain ⟨q2, hq2⟩ := told (0 ≤ p ∧ p < (a.pn : Int))
  obtain ⟨q3, hq3⟩ := told (OrdY c n Y)
  obtain ⟨q4, hq4⟩ := told (RowsY t p n Y)
  have HQ1 : Hid (q1 = true ↔ Sd t) := hq1
  have HQ2 : Hid (q2 = true ↔ (0 ≤ p ∧ p < (a.pn : Int))) := hq2
  have HQ34 : Hid ((q3 = true ↔ OrdY c n Y) ∧ (q4 = true ↔ RowsY t p n Y)) := ⟨hq3, hq4⟩
  have HSP : Hid (∀ X, Below w.heap.size w X → Calls Tryz.prog 34 #[tbV t a] X fun e w' => e = .returned (.bool q1) ∧ Below X.heap.size X w') := fun X hX => impl_sound t a q1 X (hm.below hX) hw hs (he.below hX) hcp hq1
  have HHP : Hid (∀ X, Calls Tryz.prog 35 #[tbV t a, .int .i64 p] X fun e w' => e = .returned (.bool q2) ∧ Below X.heap.size X w') := fun X => has_part t a p q2 X hw.pb hq2
  have HOR : Hid (∀ X, Below w.heap.size w X → Calls Tryz.prog 36 #[.slice A n cap, .int .i64 c] X fun e w' => e = .returned (.bool q3) ∧ Below X.heap.size X w') := fun X hX => in_order A cap n Y c q3 X (hf.below hX) (by omega) hq3
  have HEV : Hid (Sd t → ∀ X B C, Below w.heap.size w X → TBx X B t a → X.cell? ⟨C, 0, none⟩ = some (.int .i64 p) → Calls Tryz.prog 37 #[.slice A n cap, .func (.func 38) #[] #[.pointer (some ⟨B, 0, none⟩), .pointer (some ⟨C, 0, none⟩)]] X fun e w' => e = .returned (.bool q4) ∧ Below X.heap.size X w') := fun hsd X B C hX hB hC => by
    have hd : ∀ i, ∃ b : Bool, b = true ↔ FRow t p (Y i).kd (Y i).at_ (Y i).hd (Y i).wn := fun i => told _
    refine fd_every A cap n Y (fun i => (hd i).choose) q4 38 #[.pointer (some ⟨B, 0, none⟩), .pointer (some ⟨C, 0, none⟩)] X (hf.below hX) (by omega) e_fo1 (fun i hi Z hZ => ?_) (hq4.trans ⟨fun h i hi => (hd i).choose_spec.2 (h i hi), fun h i hi => (hd i).choose_spec.1 (h i hi)⟩)
    exact feed_one t a p (Y i).cy (Y i).kd (Y i).at_ (Y i).hd (Y i).wa (Y i).wn (Y i).wc _ B C Z (hB.below hZ) (kept_cell hZ hC) ((hm.below hX).below hZ) hw hs hsd (hd i).choose_spec
  clear hm hw hs he hcp hf hq hq1 hq2 hq3 hq4
  go_enter Tryz.func10, Tryz.ntmps10
  go_wp2_with fail
  refine Calls.mono (is_cyc c _) ?_
  rintro e w0 ⟨rfl, hw0⟩
  rw [hw0]
  clear hw0
  revert HB0 HX0 HP0
  generalize ((w.alloc (.cells (tbA t a) 42)).alloc (.cells #[.int .i64 p] 3)) = V
  obtain ⟨N, hN⟩ : ∃ N, w.heap.size + 1 = N := ⟨_, rfl⟩
  rw [hN]
  intro HB0 HX0 HP0
  clear hN
  by_cases hc : 0 ≤ c ∧ c ≤ 50000
  rotate_left
  · have HT : Hid (q = false) := not_true HQ.out (fun h => hc h.2.1)
    rw [inr_no hc]
    go_wp2
    go_ret
    exact ⟨ret_bool HT.out.symm, HB0.out⟩
  rw [inr_yes hc]
  by_cases hN3 : n ≤ 30000
  rotate_left
  · have HT : Hid (q = false) := not_true HQ.out (fun h => hN3 h.2.2.1)
    have hN' : (30000 : Int) < (n : Int) := by omega
    go_wp2
    go_ret
    exact ⟨ret_bool HT.out.symm, HB0.out⟩
  have hN' : ¬ ((30000 : Int) < (n : Int)) := by omega
  have hd3 : decide ((30000 : Int) < (n : Int)) = false := decide_eq_false hN'
  go_wp2_with (first | (refine wpList_load_rowG rfl 42 (.tmp 4) rfl w.heap.size rfl 42 (tbA t a) (0, 0) _ HX0.out Tryz.underlying42 rfl (by kernel_rfl) ?_) | (rw [hd3]; (refine wpList_load_rowG rfl 42 (.tmp 4) rfl w.heap.size rfl 42 (tbA t a) (0, 0) _ HX0.out Tryz.underlying42 rfl (by kernel_rfl) ?_)) | fail)
  refine Calls.mono (HSP.out _ HB0.out) ?_
  rintro e w1 ⟨rfl, hb1⟩
  have HB1 : Hid (Below w.heap.size w w1) := HB0.out.trans (hb1.mono HB0.out.size)
  have HX1 : Hid (TBx w1 w.heap.size t a) := HX0.out.below hb1
  have HP1 : Hid (w1.cell? ⟨N, 0, none⟩ = some (.int .i64 p)) := kept_cell hb1 HP0.out
  clear hb1 HB0 HX0 HP0 HSP
  cases q1
  · have HT : Hid (q = false) := not_true HQ.out (fun h => by have := HQ1.out.2 h.1; cases this)
    go_wp2
    go_ret
    exact ⟨ret_bool HT.out.symm, HB1.out⟩
  have HSD : Hid (Sd t) := HQ1.out.1 (by first | rfl | trivial)
  have kp : w1.cell? ⟨N, 0, none⟩ = some (.int .i64 p) := HP1.out
  clear HQ1
  go_wp2_with (first | (refine wpList_load_rowG rfl 42 (.tmp 4) rfl w.heap.size rfl 42 (tbA t a) (0, 0) _ HX1.out Tryz.underlying42 rfl (by kernel_rfl) ?_) | fail)
  refine Calls.mono (HHP.out _) ?_
  rintro e w2 ⟨rfl, hb2⟩
  have HB2 : Hid (Below w.heap.size w w2) := HB1.out.trans (hb2.mono HB1.out.size)
  have HX2 : Hid (TBx w2 w.heap.size t a) := HX1.out.below hb2
  have HP2 : Hid (w2.cell? ⟨N, 0, none⟩ = some (.int .i64 p)) := kept_cell hb2 HP1.out
  clear hb2 HB1 HX1 HP1 HHP kp
  cases q2
  · have HT : Hid (q = false) := not_true HQ.out (fun h => by have := HQ2.out.2 ⟨h.2.2.2.1.1, by rw [← HL.out]; exact h.2.2.2.1.2⟩; cases this)
    go_wp2
    go_ret
    exact ⟨ret_bool HT.out.symm, HB2.out⟩
  have hp := HQ2.out.1 (by first | rfl | trivial)
  have HQ3 : Hid (q = (q3 && q4)) := (bool_is HQ.out (by rw [Bool.and_eq_true, HQ34.out.1, HQ34.out.2]; exact ⟨fun h => ⟨HSD.out, hc, hN3, ⟨hp.1, by rw [HL.out]; exact hp.2⟩, h.1, h.2⟩, fun h => h.2.2.2.2⟩)).symm
  clear HQ HQ2 hp HL HQ34
  go_wp2_with fail
  refine Calls.mono (HOR.out _ HB2.out) ?_
  rintro e w3 ⟨rfl, hb3⟩
  have HB3 : Hid (Below w.heap.size w w3) := HB2.out.trans (hb3.mono HB2.out.size)
  have HX3 : Hid (TBx w3 w.heap.size t a) := HX2.out.below hb3
  have HP3 : Hid (w3.cell? ⟨N, 0, none⟩ = some (.int .i64 p)) := kept_cell hb3 HP2.out
  clear hb3 HB2 HX2 HP2 HOR
  cases q3
  · go_wp2
    go_ret
    exact ⟨ret_bool HQ3.out.symm, HB3.out⟩
  go_wp2_with fail
  refine Calls.mono (HEV.out HSD.out _ _ _ HB3.out HX3.out HP3.out) ?_
  rintro e w4 ⟨rfl, hb4⟩
  have HB4 : Hid (Below w.heap.size w w4) := HB3.out.trans (hb4.mono HB3.out.size)
  clear hb4 HB3 HX3 HP3 HEV
  go_wp2
  go_ret
  exact ⟨ret_bool (by rw [HQ3.out, Bool.true_and]), HB4.out⟩
set_option maxRecDepth 40000 in
set_option maxHeartbeats 8000000 in
theorem spec_feedok (t : Tb) (a : Ad) (p c : Int) (A : Option Addr) (cap n : Nat) (Y : Nat → Fr) (q : Bool) (w : World) (hm : TM 0 w t a) (hw : TW t a) (hs : TS a) (hf : GSeg 5 w A n (fun i => frL (Y i))) (hn : n ≤ 1048576) (hwn : ∀ i, i < n → (Y i).wn ≤ 1048576) (hq : q = true ↔ (Sd t ∧ FeedY t p c n Y)) :
    Calls Tryz.prog 7 #[tbV t a, .int .i64 p, .slice A n cap, .int .i64 c] w fun e w' => e = .returned (.bool q) ∧ Below w.heap.size w w' := by
  have HB0 : Hid (Below w.heap.size w (w.alloc (.cells (tbA t a) 42))) := (Below.refl _ _).alloc (Nat.le_refl _) _
  have HX0 : Hid (TBx (w.alloc (.cells (tbA t a) 42)) w.heap.size t a) := TBx.new w t a _ rfl
  have HQ : Hid (q = true ↔ (Sd t ∧ FeedY t p c n Y)) := hq
  have HL : Hid (t.ps.length = a.pn) := hw.pl
  have hpn : a.pn ≤ 1048576 := hs.p
  obtain ⟨q1, hq1⟩ := told (Sd t)
  have HQ1 : Hid (q1 = true ↔ Sd t) := hq1
  have HSP : Hid (Calls Tryz.prog 23 #[tbV t a] (w.alloc (.cells (tbA t a) 42)) fun e w' => e = .returned (.bool q1) ∧ Below (w.alloc (.cells (tbA t a) 42)).heap.size (w.alloc (.cells (tbA t a) 42)) w') := spec_sound t a q1 _ (hm.below HB0.out) hw hs hq1
  have HRW : Hid (∀ (y : Fr) (b : Bool) X, y.wn ≤ 1048576 → (b = true ↔ FRow t p y.kd y.at_ y.hd y.wn) → Below w.heap.size w X → Calls Tryz.prog 25 #[tbV t a, .int .i64 p, frV y] X fun e w' => e = .returned (.bool b) ∧ Below X.heap.size X w') := fun y b X h1 h2 hX => spec_row t a p y.cy y.kd y.at_ y.hd y.wa y.wn y.wc b X (hm.below hX) hw hs h1 h2
  have HFD : Hid (∀ X, Below w.heap.size w X → GSeg 5 X A n (fun i => frL (Y i))) := fun X hX => hf.below hX
  have HWN : Hid (∀ i, i < n → (Y i).wn ≤ 1048576) := hwn
  have hw1 : IntKind.i64.wrap ((a.pn : Int) - 1) = (a.pn : Int) - 1 := by rw [IntKind.wrap_i64]; omega
  clear hm hw hs hf hq hq1 hwn
  go_enter Tryz.func7, Tryz.ntmps7
  go_wp2_with (first | (refine wpList_load_row rfl 42 (.tmp 4) rfl w.heap.size rfl 42 (tbA t a) (0, 0) _ HX0.out Tryz.underlying42 rfl (by kernel_rfl) ?_) | fail)
  refine Calls.mono HSP.out ?_
  rintro e w1 ⟨rfl, hb1⟩
  have HB1 : Hid (Below w.heap.size w w1) := HB0.out.trans (hb1.mono HB0.out.size)
  have HX1 : Hid (TBx w1 w.heap.size t a) := HX0.out.below hb1
  clear hb1 HB0 HX0 HSP
  cases q1
  · have HT : Hid (q = false) := not_true HQ.out (fun h => by have := HQ1.out.2 h.1; cases this)
    go_wp2
    go_ret
    exact ⟨ret_bool HT.out.symm, HB1.out⟩
  have HSD : Hid (Sd t) := HQ1.out.1 (by first | rfl | trivial)
  have k15 : w1.cell? ⟨w.heap.size, 15, none⟩ = some (.slice a.pa a.pn a.pc) := HX1.out.cell 15 rfl
  clear HQ1
  go_wp2_with fail
  refine Calls.mono (in_any p 0 ((a.pn : Int) - 1) _) ?_
  rintro e w2 ⟨rfl, hw2⟩
  subst hw2
  clear k15
  by_cases hp : 0 ≤ p ∧ p < (a.pn : Int)
  rotate_left
  · have HT : Hid (q = false) := not_true HQ.out (fun h => hp ⟨h.2.2.2.1.1, by rw [← HL.out]; exact h.2.2.2.1.2⟩)
    rw [inr_no (x := p) (lo := 0) (hi := (a.pn : Int) - 1) (fun h => hp ⟨h.1, by omega⟩)]
    go_wp2
    go_ret
    exact ⟨ret_bool HT.out.symm, HB1.out⟩
  rw [inr_yes (x := p) (lo := 0) (hi := (a.pn : Int) - 1) ⟨hp.1, by omega⟩]
  go_wp2_with fail
  refine Calls.mono (in_any c 0 50000 _) ?_
  rintro e w2 ⟨rfl, hw2⟩
  subst hw2
  by_cases hc : 0 ≤ c ∧ c ≤ 50000
  rotate_left
  · have HT : Hid (q = false) := not_true HQ.out (fun h => hc h.2.1)
    rw [inr_no hc]
    go_wp2
    go_ret
    exact ⟨ret_bool HT.out.symm, HB1.out⟩
  rw [inr_yes hc]
  by_cases hN3 : n ≤ 30000
  rotate_left
  · have HT : Hid (q = false) := not_true HQ.out (fun h => hN3 h.2.2.1)
    have hN' : (30000 : Int) < (n : Int) := by omega
    go_wp2
    go_ret
    exact ⟨ret_bool HT.out.symm, HB1.out⟩
  have hN' : ¬ ((30000 : Int) < (n : Int)) := by omega
  have HQ3 : Hid (q = true ↔ (OrdY c n Y ∧ RowsY t p n Y)) := HQ.out.trans ⟨fun h => h.2.2.2.2, fun h => ⟨HSD.out, hc, hN3, ⟨hp.1, by rw [HL.out]; exact hp.2⟩, h⟩⟩
  clear HQ hp HL hc
  rename World => w3
  have HB3 : Hid (Below w.heap.size w w3) := HB1.out
  have HX3 : Hid (TBx w3 w.heap.size t a) := HX1.out
  clear HB1 HX1
  go_wp2
  go_loopw [9, 10] (fun b i wr => ∃ (m : Nat) (B : Int), m ≤ n ∧ i = .int .i64 m ∧ b = .int .i64 B ∧ Hid (B = befY Y m ∧ Below w3.heap.size w3 wr ∧ OrdY c m Y ∧ RowsY t p m Y)) (fun _ i _ => n - (intOf i).toNat)
  case atStart => exact ⟨0, 0, by omega, rfl, rfl, rfl, Below.refl _ _, fun i hi => absurd hi (by omega), fun i hi => absurd hi (by omega)⟩
  case round =>
    obtain ⟨m, B, hm, rfl, rfl, HR⟩ := hrel
    have HBR : Hid (Below w.heap.size w wr) := HB3.out.trans (HR.out.2.1.mono HB3.out.size)
    by_cases hmn : m < n
    rotate_left
    · obtain rfl : m = n := by omega
      have HT : Hid (q = true) := HQ3.out.2 HR.out.2.2
      go_wp2
      go_ret
      exact ⟨ret_bool HT.out.symm, HBR.out⟩
    have hmn' : (m : Int) < (n : Int) := by omega
    obtain ⟨b1, o1, rfl, hbl1, p1⟩ := (HFD.out _ HBR.out).at m hmn
    have HIN : Hid (q = true → (B ≤ (Y m).cy ∧ (Y m).cy ≤ c) ∧ FRow t p (Y m).kd (Y m).at_ (Y m).hd (Y m).wn) := fun h => ⟨by have := (HQ3.out.1 h).1 m hmn; rw [← HR.out.1] at this; exact this, (HQ3.out.1 h).2 m hmn⟩
    have HNX : Hid ((B ≤ (Y m).cy ∧ (Y m).cy ≤ c) → FRow t p (Y m).kd (Y m).at_ (Y m).hd (Y m).wn → (OrdY c (m + 1) Y ∧ RowsY t p (m + 1) Y) ∧ (Y m).cy = befY Y (m + 1)) := fun h1 h2 => ⟨⟨ord_next HR.out.2.2.1 (by rw [← HR.out.1]; exact h1), rows_next HR.out.2.2.2 h2⟩, rfl⟩
    obtain ⟨r, hr⟩ := told (FRow t p (Y m).kd (Y m).at_ (Y m).hd (Y m).wn)
    have HRR : Hid (r = true ↔ FRow t p (Y m).kd (Y m).at_ (Y m).hd (Y m).wn) := hr
    have HRC : Hid (∀ X, Below w.heap.size w X → Calls Tryz.prog 25 #[tbV t a, .int .i64 p, frV (Y m)] X fun e w' => e = .returned (.bool r) ∧ Below X.heap.size X w') := fun X hX => HRW.out (Y m) r X (HWN.out m hmn) hr hX
    have HXR : Hid (TBx wr w.heap.size t a) := HX3.out.below HR.out.2.1
    have HWR : Hid (Below w3.heap.size w3 wr) := HR.out.2.1
    obtain ⟨c0, c1, c2, c3, c4⟩ := fr_cells p1
    clear HR hr
    generalize Y m = y at c0 c1 c2 c3 c4 HIN HNX HRR HRC
    obtain ⟨cy, kd, at_, hd, wa, wn, wc⟩ := y
    simp only [frV] at c0 c1 c2 c3 c4 HIN HNX HRR HRC
    have HRG : Hid (∀ X : Gr wr, Calls Tryz.prog 25 #[tbV t a, .int .i64 p, .agg #[.int .i64 cy, .int .i64 kd, .int .i64 at_, .int .i64 hd, .slice wa wn wc]] X.w fun e w' => e = .returned (.bool r) ∧ Below X.w.heap.size X.w w') := fun X => HRC.out _ (HBR.out.trans (X.h.mono HBR.out.size))
    have HXX : Hid (∀ w', (∃ X : Gr wr, w' = X.w) → w'.heap[w.heap.size]? = some (.cells (tbA t a) 42 (0, 0))) := fun w' hX => by
      obtain ⟨X, rfl⟩ := hX
      exact HXR.out.below X.h
    replace c0 := fun X => gr_cell (W0 := wr) c0 X
    replace c1 := fun X => gr_cell (W0 := wr) c1 X
    replace c2 := fun X => gr_cell (W0 := wr) c2 X
    replace c3 := fun X => gr_cell (W0 := wr) c3 X
    replace c4 := fun X => gr_cell (W0 := wr) c4 X
    clear p1 hbl1 HRC
    cases r
    · have HT : Hid (q = false) := Bool.eq_false_iff.2 (fun h => by have := HRR.out.2 (HIN.out h).2; cases this)
      clear HIN HNX HRR
      go_wp2
      have hgr := gr_some wr
      refine region_alike (by kernel_rfl) (by kernel_rfl) ?_
      (refine wpQuiet_load_row rfl 42 (.tmp 4) rfl w.heap.size rfl 42 (tbA t a) (0, 0) _ HXX.out Tryz.underlying42 rfl (by kernel_rfl) ?_; simp only [Act.put, List.setIfInBounds_toArray, List.set_cons_zero, List.set_cons_succ])
      repeat (go_big_quiet_step (first | (go_at_call 25; exact gr_call (HRG.out _))))
      refine wpQuiet_nil ?_
      intro _ hw'
      obtain ⟨X1, rfl⟩ := hw'
      have HBE : Hid (Below w.heap.size w X1.w) := HBR.out.trans (X1.h.mono HBR.out.size)
      generalize X1.w = W9 at HBE ⊢
      clear hgr c0 c1 c2 c3 c4 HRG HXX
      go_wp2
      go_ret
      exact ⟨ret_bool HT.out.symm, HBE.out⟩
    have hrr := HRR.out.1 (by first | rfl | trivial)
    by_cases hi : B ≤ cy ∧ cy ≤ c
    rotate_left
    · have HT : Hid (q = false) := Bool.eq_false_iff.2 (fun h => hi (HIN.out h).1)
      have HIG : Hid (∀ X : Gr wr, Calls Tryz.prog 24 #[.int .i64 cy, .int .i64 B, .int .i64 c] X.w fun e w' => e = .returned (.bool false) ∧ Below X.w.heap.size X.w w') := fun X => (in_any _ _ _ X.w).mono fun e w' ⟨h1, h2⟩ => ⟨by rw [h1, inr_no hi], by rw [h2]; exact Below.refl _ _⟩
      clear HIN HNX HRR hrr hi
      go_wp2
      have hgr := gr_some wr
      refine region_alike (by kernel_rfl) (by kernel_rfl) ?_
      (refine wpQuiet_load_row rfl 42 (.tmp 4) rfl w.heap.size rfl 42 (tbA t a) (0, 0) _ HXX.out Tryz.underlying42 rfl (by kernel_rfl) ?_; simp only [Act.put, List.setIfInBounds_toArray, List.set_cons_zero, List.set_cons_succ])
      repeat (go_big_quiet_step (first | (go_at_call 25; exact gr_call (HRG.out _)) | (go_at_call 24; exact gr_call (HIG.out _))))
      refine wpQuiet_nil ?_
      intro _ hw'
      obtain ⟨X1, rfl⟩ := hw'
      have HBE : Hid (Below w.heap.size w X1.w) := HBR.out.trans (X1.h.mono HBR.out.size)
      generalize X1.w = W9 at HBE ⊢
      clear hgr c0 c1 c2 c3 c4 HRG HXX HIG
      go_wp2
      go_ret
      exact ⟨ret_bool HT.out.symm, HBE.out⟩
    have HIG : Hid (∀ X : Gr wr, Calls Tryz.prog 24 #[.int .i64 cy, .int .i64 B, .int .i64 c] X.w fun e w' => e = .returned (.bool true) ∧ Below X.w.heap.size X.w w') := fun X => (in_any _ _ _ X.w).mono fun e w' ⟨h1, h2⟩ => ⟨by rw [h1, inr_yes hi], by rw [h2]; exact Below.refl _ _⟩
    have H3 : Hid ((OrdY c (m + 1) Y ∧ RowsY t p (m + 1) Y) ∧ cy = befY Y (m + 1)) := HNX.out hi hrr
    clear HIN HNX HRR hrr hi
    go_wp2
    have hgr := gr_some wr
    refine region_alike (by kernel_rfl) (by kernel_rfl) ?_
    (refine wpQuiet_load_row rfl 42 (.tmp 4) rfl w.heap.size rfl 42 (tbA t a) (0, 0) _ HXX.out Tryz.underlying42 rfl (by kernel_rfl) ?_; simp only [Act.put, List.setIfInBounds_toArray, List.set_cons_zero, List.set_cons_succ])
    repeat (go_big_quiet_step (first | (go_at_call 25; exact gr_call (HRG.out _)) | (go_at_call 24; exact gr_call (HIG.out _))))
    refine wpQuiet_nil ?_
    intro _ hw'
    obtain ⟨X1, rfl⟩ := hw'
    have HBE : Hid (Below w.heap.size w X1.w) := HBR.out.trans (X1.h.mono HBR.out.size)
    have HWE : Hid (Below w3.heap.size w3 X1.w) := HWR.out.trans (X1.h.mono HWR.out.size)
    have c9 : X1.w.cell? ⟨b1, o1 + m * 5, none⟩ = some (.int .i64 cy) := c0 X1
    revert HBE HWE c9
    generalize X1.w = W4
    intro HBE HWE c9
    clear hgr c0 c1 c2 c3 c4 HRG HXX HIG
    go_wp2
    go_roundw
    case rel => exact ⟨m + 1, cy, by omega, by go_num, rfl, H3.out.2, HWE.out, H3.out.1⟩
    case measure => simp [intOf]; omega
end Go.Proofs.YtiheojmknhgjfaaGreatDoor
