
/-
  The rules on windows, by the program. Conditions: what a rule is asked under.
-/
import Derived.Test.YtofibnmbgfggkaaGreatDoorBas
import Derived.Test.YtofibnmbgfggkaaGreatDoorRul
import Derived.BigQuiet
import Derived.Deep.RegionHeldLaw
import Derived.Test.YtofibnmbgfggkaaGreatDoorPev
import Derived.Test.YtofibnmbgfggkaaGreatDoorWal
import Derived.Test.YtofibnmbgfggkaaGreatDoorApj
import Derived.Shelf.Abstract
namespace Go.Proofs.YtofibnmbgfggkaaGreatDoor
open Go.ChangeShapes Go.WideShapes Go.ChangeAt Go.RowKit Go.Deep Go.Joins
set_option linter.unusedVariables false

set_option maxRecDepth 40000 in
set_option maxHeartbeats 4000000 in
theorem win_two (a : Option Addr) (cap n : Nat) (xs : List wiT) (P : Nat → Nat → Bool) (q : Bool) (fid : Nat) (caps : Array Value) (w : World) (hs : GSeg 3 w a n (wiX xs)) (hn : n ≤ 9223372036854775807) (hc : n ≤ cap) (hen : ∀ args (v : World), (callFunc fid args).run Tryz.prog v = .ok (.enter fid args) v)
    (hf : ∀ i, i < n → ∀ j, j < i → ∀ X, Below w.heap.size w X → Calls Tryz.prog fid (#[wiV (xs.getD j wi0), wiV (xs.getD i wi0)] ++ caps) X fun e w' => e = .returned (.bool (P j i)) ∧ Below X.heap.size X w')
    (hq : q = true ↔ ∀ i, i < n → ∀ j, j < i → P j i = true) :
    Calls Tryz.prog 124 #[.slice a n cap, .func (.func fid) #[] caps] w fun e w' => e = .returned (.bool q) ∧ Below w.heap.size w w' := by
  have HQ : Hid (q = true ↔ ∀ i, i < n → ∀ j, j < i → P j i = true) := hq
  have HS : Hid (GSeg 3 w a n (wiX xs)) := hs
  have HF : Hid (∀ i, i < n → ∀ j, j < i → ∀ X, Below w.heap.size w X → Calls Tryz.prog fid (#[wiV (xs.getD j wi0), wiV (xs.getD i wi0)] ++ caps) X fun e w' => e = .returned (.bool (P j i)) ∧ Below X.heap.size X w') := hf
  clear hq hs hf
  go_enter Tryz.func124, Tryz.ntmps124
  go_wp2
  go_loopw [11] (fun i wr => ∃ m : Nat, m ≤ n ∧ i = .int .i64 m ∧ Hid (Below w.heap.size w wr ∧ ∀ i, i < m → ∀ j, j < i → P j i = true)) (fun i _ => n - (intOf i).toNat)
  case atStart => exact ⟨0, by omega, rfl, Below.refl _ _, fun i hi => absurd hi (by omega)⟩
  case round =>
    obtain ⟨m, hm, rfl, HR⟩ := hrel
    by_cases hmn : m < n
    rotate_left
    · obtain rfl : m = n := by omega
      have HT : Hid (q = true) := HQ.out.2 HR.out.2
      go_wp2
      go_ret
      exact ⟨ret_bool HT.out.symm, HR.out.1⟩
    have hmn' : (m : Int) < (n : Int) := by omega
    have hmc' : (m : Int) ≤ (cap : Int) := by omega
    obtain ⟨b1, o1, rfl, hbl1, p0⟩ := HS.out.at m hmn
    have HP : Hid (∀ X, Below w.heap.size w X → ∀ i, i < n → CellsAt X b1 (o1 + i * 3) (wiX xs i)) := fun X hX i hi => by
      obtain ⟨b2, o2, e, hbl2, p2⟩ := HS.out.at i hi
      cases e
      exact p2.of (fun j => hX.cell (p := ⟨b1, j, none⟩) hbl1)
    have pc := HP.out _ HR.out.1 m hmn
    simp only [wiX] at pc
    obtain ⟨c0, c1, c2⟩ := wi_cells pc
    clear pc
    have HFm : Hid _ := HF.out m hmn
    have HPf : Hid (∀ j, j < m → P j m = false → q = false) := fun j hj h => not_true HQ.out (fun g => by rw [g m hmn j hj] at h; cases h)
    have HPt : Hid ((∀ j, j < m → P j m = true) → ∀ i, i < m + 1 → ∀ j, j < i → P j i = true) := fun h i hi j hj => by
      by_cases e : i = m
      · subst e; exact h j hj
      · exact HR.out.2 i (by omega) j hj
    generalize xs.getD m wi0 = y at c0 c1 c2 HFm
    generalize hpm : (fun j => P j m) = pm at *
    replace HFm : Hid (∀ j, j < m → ∀ X, Below w.heap.size w X → Calls Tryz.prog fid (#[wiV (xs.getD j wi0), wiV y] ++ caps) X fun e w' => e = .returned (.bool (pm j)) ∧ Below X.heap.size X w') := fun j hj X hX => by rw [← hpm]; exact HFm.out j hj X hX
    replace HPf : Hid (∀ j, j < m → pm j = false → q = false) := fun j hj h => HPf.out j hj (by rw [← hpm] at h; exact h)
    replace HPt : Hid ((∀ j, j < m → pm j = true) → ∀ i, i < m + 1 → ∀ j, j < i → P j i = true) := fun h => HPt.out (fun j hj => by have := h j hj; rw [← hpm] at this; exact this)
    clear hpm
    obtain ⟨y1, y2, y3⟩ := y
    simp only at c0 c1 c2
    have HK0 : Hid (Below w.heap.size w (wr.alloc (.cells #[.int .i64 y1, .int .i64 y2, .int .i64 y3] 89)) ∧ CellsAt (wr.alloc (.cells #[.int .i64 y1, .int .i64 y2, .int .i64 y3] 89)) wr.heap.size 0 [.int .i64 y1, .int .i64 y2, .int .i64 y3]) := ⟨HR.out.1.alloc HR.out.1.size _, CellsAt.new wr [.int .i64 y1, .int .i64 y2, .int .i64 y3] 89 _ rfl⟩
    clear p0 hbl1
    go_wp2
    clear c0 c1 c2 HR
    revert HK0
    generalize (wr.alloc (.cells #[.int .i64 y1, .int .i64 y2, .int .i64 y3] 89)) = V0
    generalize wr.heap.size = B1
    intro HK0
    go_loopw [20] (fun i wq => ∃ k : Nat, k ≤ m ∧ i = .int .i64 k ∧ Hid (Below w.heap.size w wq ∧ CellsAt wq B1 0 [.int .i64 y1, .int .i64 y2, .int .i64 y3] ∧ ∀ j, j < k → pm j = true)) (fun i _ => m - (intOf i).toNat)
    case atStart => exact ⟨0, by omega, rfl, HK0.out.1, HK0.out.2, fun i hi => absurd hi (by omega)⟩
    case round =>
      rename World => wq
      obtain ⟨k, hk, rfl, HR2⟩ := hrel
      by_cases hkm : k < m
      rotate_left
      · obtain rfl : k = m := by omega
        have HR3 : Hid _ := HPt.out HR2.out.2.2
        go_wp2
        go_roundw
        case rel => exact ⟨k + 1, by omega, by go_num, HR2.out.1, HR3.out⟩
        case measure => simp [intOf]; omega
      have hkm' : (k : Int) < (m : Int) := by omega
      have pd := HP.out _ HR2.out.1 k (by omega)
      simp only [wiX] at pd
      obtain ⟨d0, d1, d2⟩ := wi_cells pd
      clear pd
      have HFk : Hid _ := HFm.out k hkm
      have HPk : Hid (pm k = false → q = false) := HPf.out k hkm
      have HPs : Hid (pm k = true → ∀ j, j < k + 1 → pm j = true) := fun h j hj => by
        by_cases e : j = k
        · subst e; exact h
        · exact HR2.out.2.2 j (by omega)
      generalize xs.getD k wi0 = z at d0 d1 d2 HFk
      generalize pm k = pk at HFk HPk HPs
      obtain ⟨z1, z2, z3⟩ := z
      simp only [wiV] at d0 d1 d2 HFk
      have hal : Below wq.heap.size wq (wq.alloc (.cells #[.int .i64 z1, .int .i64 z2, .int .i64 z3] 89)) := (Below.refl _ _).alloc (Nat.le_refl _) _
      have hK2 := HR2.out.2.1.below hal
      have e0 := cell0 hK2 0 rfl
      have e1 := cell0 hK2 1 rfl
      have e2 := cell0 hK2 2 rfl
      have HAL : Hid (Below w.heap.size w (wq.alloc (.cells #[.int .i64 z1, .int .i64 z2, .int .i64 z3] 89)) ∧ CellsAt (wq.alloc (.cells #[.int .i64 z1, .int .i64 z2, .int .i64 z3] 89)) B1 0 [.int .i64 y1, .int .i64 y2, .int .i64 y3]) := ⟨HR2.out.1.trans (hal.mono HR2.out.1.size), hK2⟩
      clear hal hK2
      go_wp2_with fail
      refine (HFk.out _ HAL.out.1).mono ?_
      rintro u W1 ⟨rfl, hb2⟩
      have HB2 : Hid (Below w.heap.size w W1 ∧ CellsAt W1 B1 0 [.int .i64 y1, .int .i64 y2, .int .i64 y3]) := ⟨HAL.out.1.trans (hb2.mono HAL.out.1.size), HAL.out.2.below hb2⟩
      clear hb2 d0 d1 d2 e0 e1 e2 HAL
      cases pk
      · have HT : Hid (q = false) := HPk.out (by trivial)
        go_wp2
        go_ret
        exact ⟨ret_bool HT.out.symm, HB2.out.1⟩
      · have HT : Hid _ := HPs.out (by trivial)
        go_wp2
        go_roundw
        case rel => exact ⟨k + 1, by omega, by go_num, HB2.out.1, HB2.out.2, HT.out⟩
        case measure => simp [intOf]; omega
set_option maxRecDepth 20000 in
set_option maxHeartbeats 4000000 in
theorem t_in (x : wiT) (m : Int) (q : Bool) (B : Nat) (X : World) (hf : x.2.1 ≤ 9223372036854775807) (hc : X.cell? ⟨B, 0, none⟩ = some (.int .i64 m)) (hq : q = true ↔ (WOk x ∧ x.1 + x.2.1 ≤ m)) :
    Calls Tryz.prog 121 #[wiV x, .pointer (some ⟨B, 0, none⟩)] X fun e w' => e = .returned (.bool q) ∧ Below X.heap.size X w' := by
  obtain ⟨qo, hqo⟩ := told (WOk x)
  have HW : Hid (∀ Y, Calls Tryz.prog 122 #[win x.1 x.2.1 x.2.2] Y fun e w' => e = .returned (.bool qo) ∧ Below Y.heap.size Y w') := fun Y => impl_wok _ _ _ qo Y hf hqo
  have HE : Hid (qo = true → ∀ Y, Calls Tryz.prog 85 #[win x.1 x.2.1 x.2.2] Y fun e w' => e = .returned (.int .i64 (x.1 + x.2.1)) ∧ Below Y.heap.size Y w') := fun h Y => win_end _ _ _ Y (hqo.1 h).fit
  have HQ1 : Hid (qo = false → q = false) := fun h => not_true hq (fun g => by rw [hqo.2 g.1] at h; cases h)
  have HQ2 : Hid (qo = true → decide (x.1 + x.2.1 ≤ m) = q) := fun h => bool_is hq ⟨fun g => ⟨hqo.1 h, of_decide_eq_true g⟩, fun g => decide_eq_true g.2⟩
  clear hq hqo hf
  generalize x.1 + x.2.1 = ex at HE HQ2
  obtain ⟨x1, x2, x3⟩ := x
  simp only [wiV] at *
  have hb : Below X.heap.size X (X.alloc (wrow 89 x1 x2 x3)) := (Below.refl _ _).alloc (Nat.le_refl _) _
  have c9 : (X.alloc (wrow 89 x1 x2 x3)).cell? ⟨B, 0, none⟩ = some (.int .i64 m) := kept_cell hb hc
  have K := CellsAt.new X [.int .i64 x1, .int .i64 x2, .int .i64 x3] 89 _ rfl
  have c0 : (X.alloc (wrow 89 x1 x2 x3)).cell? ⟨X.heap.size, 0, none⟩ = some (.int .i64 x1) := cell0 K 0 rfl
  have c1 : (X.alloc (wrow 89 x1 x2 x3)).cell? ⟨X.heap.size, 1, none⟩ = some (.int .i64 x2) := cell0 K 1 rfl
  have c2 : (X.alloc (wrow 89 x1 x2 x3)).cell? ⟨X.heap.size, 2, none⟩ = some (.int .i64 x3) := cell0 K 2 rfl
  clear K hc
  generalize HW0 : X.alloc (wrow 89 x1 x2 x3) = W0 at hb c0 c1 c2 c9
  replace c0 := fun x => gr_cell c0 x
  replace c1 := fun x => gr_cell c1 x
  replace c2 := fun x => gr_cell c2 x
  replace c9 := fun x => gr_cell c9 x
  cases qo
  · have HT : Hid (q = false) := HQ1.out (by trivial)
    clear HQ1 HQ2 HE
    go_enter Tryz.func121, Tryz.ntmps121
    go_wp2
    clear HW0
    have hgr := gr_some W0
    refine region_alike (by kernel_rfl) (by kernel_rfl) ?_
    repeat (go_big_quiet_step (first | (go_at_call 122; exact gr_call (HW.out _))))
    refine wpQuiet_nil ?_
    intro _ hw'
    obtain ⟨x9, rfl⟩ := hw'
    have hb := hb.trans (x9.h.mono hb.size)
    all_goals (have HB : Hid _ := hb; clear hb; go_wp2; go_ret; exact ⟨ret_bool HT.out.symm, HB.out⟩)
  · have HT : Hid (decide (ex ≤ m) = q) := HQ2.out (by trivial)
    have HE' : Hid _ := HE.out (by trivial)
    clear HQ1 HQ2 HE
    generalize hd : decide (ex ≤ m) = d at HT
    go_enter Tryz.func121, Tryz.ntmps121
    go_wp2
    clear HW0
    have hgr := gr_some W0
    refine region_alike (by kernel_rfl) (by kernel_rfl) ?_
    repeat (go_big_quiet_step (first | (go_at_call 122; exact gr_call (HW.out _)) | (go_at_call 85; exact gr_call (HE'.out _))))
    refine wpQuiet_nil ?_
    intro _ hw'
    obtain ⟨x9, rfl⟩ := hw'
    have hb := hb.trans (x9.h.mono hb.size)
    all_goals (have HB : Hid _ := hb; clear hb; go_wp2; go_ret; exact ⟨ret_bool HT.out, HB.out⟩)
set_option maxRecDepth 20000 in
theorem e_in : ∀ args (v : World), (callFunc 121 args).run Tryz.prog v = .ok (.enter 121 args) v := enters_of Tryz.func121 (by kernel_rfl) rfl
set_option maxRecDepth 20000 in
theorem e_apart : ∀ args (v : World), (callFunc 125 args).run Tryz.prog v = .ok (.enter 125 args) v := enters_of Tryz.func125 (by kernel_rfl) rfl
/-- Every window of the whole list is one of a partition's. -/
theorem allW_mem {ps : List Pt} {x : wiT} (h : x ∈ allW ps) : ∃ i, i < ps.length ∧ ∃ j, j < (ps.getD i pt0).ws.length ∧ x = (ps.getD i pt0).ws.getD j wi0 := by
  unfold allW at h
  rw [List.mem_flatten] at h
  obtain ⟨l, hl, hx⟩ := h
  obtain ⟨p, hp, rfl⟩ := List.mem_map.1 hl
  obtain ⟨i, hi, rfl⟩ := List.mem_iff_getElem.1 hp
  obtain ⟨j, hj, rfl⟩ := List.mem_iff_getElem.1 hx
  refine ⟨i, hi, j, ?_, ?_⟩
  · simpa [List.getD, hi] using hj
  · simp [List.getD, hi, hj]
theorem mem_allW {ps : List Pt} {i j : Nat} (hi : i < ps.length) (hj : j < (ps.getD i pt0).ws.length) : ∃ k, k < (allW ps).length ∧ (allW ps).getD k wi0 = (ps.getD i pt0).ws.getD j wi0 := by
  have h : (ps.getD i pt0).ws.getD j wi0 ∈ allW ps := by
    unfold allW
    rw [List.mem_flatten]
    refine ⟨(ps.getD i pt0).ws, List.mem_map.2 ⟨ps.getD i pt0, ?_, rfl⟩, ?_⟩
    · simp [List.getD, hi]
    · generalize (ps.getD i pt0).ws = l at hj ⊢
      simp [List.getD, hj]
  obtain ⟨k, hk, e⟩ := List.mem_iff_getElem.1 h
  exact ⟨k, hk, by simp [List.getD, hk]; simpa [List.getD] using e⟩
theorem allW_fit {t : Tb} {a : Ad} (h : TW t a) : ∀ k, k < (allW t.ps).length → ((allW t.ps).getD k wi0).2.1 ≤ 9223372036854775807 := fun k hk => by
  have hm : (allW t.ps).getD k wi0 ∈ allW t.ps := by simp [List.getD, hk]
  obtain ⟨i, hi, j, hj, e⟩ := allW_mem hm
  rw [e]
  exact h.wf i (by rw [← h.pl]; exact hi) j hj
theorem allW_len {ps : List Pt} (h : ∀ i, i < ps.length → (ps.getD i pt0).ws.length ≤ 4) : ∀ m, m ≤ ps.length → (allW (ps.take m)).length ≤ 4 * m := by
  intro m
  induction m with
  | zero => intro _; simp [allW]
  | succ m ih =>
    intro hm
    rw [allW_succ ps m (by omega), List.length_append]
    have := ih (by omega)
    have := h m (by omega)
    omega
set_option maxRecDepth 40000 in
set_option maxHeartbeats 4000000 in
theorem cl13 (t : Tb) (a : Ad) (B : Nat) (q : Bool) (X : World) (hu : Und X B t a) (hp : ∀ j, j < 13 → R t j) (hq : q = true ↔ R t 13) :
    Calls Tryz.prog 118 #[.pointer (some ⟨B, 0, none⟩)] X fun e w' => e = .returned (.bool q) ∧ Below X.heap.size X w' := by
  have HL : t.ps.length = a.pn := hu.w.pl
  have h8 := hp 8 (by omega)
  have h12 := hp 12 (by omega)
  simp only [R] at h8 h12
  have hwn : ∀ i, i < a.pn → 1 ≤ (a.Y i).wn ∧ (a.Y i).wn ≤ 4 := fun i hi => by
    have g := h12 i (by omega)
    rw [(hu.m.p.2 i hi).ln] at g
    exact g
  have hN : (allW t.ps).length ≤ 24 := by
    have := allW_len (ps := t.ps) (fun i hi => (h12 i hi).2) t.ps.length (Nat.le_refl _)
    rw [List.take_length] at this
    omega
  have HAL : Hid (∀ Y, TM 0 Y t a → Calls Tryz.prog 120 #[tbV t a] Y fun e w' => (∃ A c, e = .returned (.slice A (allW t.ps).length c) ∧ (allW t.ps).length ≤ c ∧ GSeg 3 w' A (allW t.ps).length (wiX (allW t.ps))) ∧ Below Y.heap.size Y w') := fun Y hY => impl_all t a Y hY HL (by omega) hwn
  have HFT : Hid _ := allW_fit hu.w
  have HXX : Hid (X.heap[B]? = some (.cells (tbA t a) 40 (0, 0))) := hu.x
  have HQ : Hid (q = true ↔ ∀ i, i < (allW t.ps).length → (WOk ((allW t.ps).getD i wi0) ∧ ((allW t.ps).getD i wi0).1 + ((allW t.ps).getD i wi0).2.1 ≤ t.mem)) := hq
  have HU : Hid (Und X B t a) := hu
  have HEV : Hid (∀ (Y : World) A c, Und Y B t a → GSeg 3 Y A (allW t.ps).length (wiX (allW t.ps)) → Calls Tryz.prog 119 #[.slice A (allW t.ps).length c, .func (.func 121) #[] #[.pointer (some ⟨B, 0, none⟩)]] Y fun e w' => e = .returned (.bool q) ∧ Below Y.heap.size Y w') := fun Y A c hY hs => by
    have hd : ∀ i, ∃ p : Bool, p = true ↔ (WOk ((allW t.ps).getD i wi0) ∧ ((allW t.ps).getD i wi0).1 + ((allW t.ps).getD i wi0).2.1 ≤ t.mem) := fun i => told _
    exact wi_every A c (allW t.ps).length (allW t.ps) (fun i => (hd i).choose) q 121 #[.pointer (some ⟨B, 0, none⟩)] Y hs (by omega) e_in
      (fun i hi Z hZ => t_in ((allW t.ps).getD i wi0) t.mem _ B Z (HFT.out i hi) (kept_cell hZ (hY.x.cell 0 rfl)) (hd i).choose_spec)
      (HQ.out.trans ⟨fun h i hi => (hd i).choose_spec.2 (h i hi), fun h i hi => (hd i).choose_spec.1 (h i hi)⟩)
  clear hu hp hq HL h8 h12 hwn HFT HQ
  go_enter Tryz.func118, Tryz.ntmps118
  go_wp2_with (first | (refine wpList_load_row rfl 40 (.tmp 0) rfl B rfl 40 (tbA t a) (0, 0) _ HXX.out Tryz.underlying40 rfl (by kernel_rfl) ?_) | fail)
  refine Calls.mono (HAL.out _ HU.out.m) ?_
  rintro e w1 ⟨⟨A, c, rfl, hAc, hAs⟩, hb1⟩
  have HU1 : Hid (Und w1 B t a) := HU.out.below hb1
  have HB1 : Hid (Below X.heap.size X w1) := hb1
  have HAA : Hid ((allW t.ps).length ≤ c ∧ GSeg 3 w1 A (allW t.ps).length (wiX (allW t.ps))) := ⟨hAc, hAs⟩
  clear hb1 hAc hAs
  go_wp2_with fail
  refine Calls.mono (HEV.out _ A c HU1.out HAA.out.2) ?_
  rintro e w2 ⟨rfl, hb2⟩
  have HB2 : Hid (Below X.heap.size X w2) := HB1.out.trans (hb2.mono HB1.out.size)
  clear hb2
  go_wp2
  go_ret
  exact ⟨rfl, HB2.out⟩
set_option maxRecDepth 40000 in
set_option maxHeartbeats 4000000 in
theorem cl14 (t : Tb) (a : Ad) (B : Nat) (q : Bool) (X : World) (hu : Und X B t a) (hp : ∀ j, j < 14 → R t j) (hq : q = true ↔ R t 14) :
    Calls Tryz.prog 123 #[.pointer (some ⟨B, 0, none⟩)] X fun e w' => e = .returned (.bool q) ∧ Below X.heap.size X w' := by
  have HL : t.ps.length = a.pn := hu.w.pl
  have h8 := hp 8 (by omega)
  have h12 := hp 12 (by omega)
  simp only [R] at h8 h12
  have hwn : ∀ i, i < a.pn → 1 ≤ (a.Y i).wn ∧ (a.Y i).wn ≤ 4 := fun i hi => by
    have g := h12 i (by omega)
    rw [(hu.m.p.2 i hi).ln] at g
    exact g
  have hN : (allW t.ps).length ≤ 24 := by
    have := allW_len (ps := t.ps) (fun i hi => (h12 i hi).2) t.ps.length (Nat.le_refl _)
    rw [List.take_length] at this
    omega
  have HAL : Hid (∀ Y, TM 0 Y t a → Calls Tryz.prog 120 #[tbV t a] Y fun e w' => (∃ A c, e = .returned (.slice A (allW t.ps).length c) ∧ (allW t.ps).length ≤ c ∧ GSeg 3 w' A (allW t.ps).length (wiX (allW t.ps))) ∧ Below Y.heap.size Y w') := fun Y hY => impl_all t a Y hY HL (by omega) hwn
  have HFT : Hid _ := allW_fit hu.w
  have HXX : Hid (X.heap[B]? = some (.cells (tbA t a) 40 (0, 0))) := hu.x
  have HQ : Hid (q = true ↔ ∀ i, i < (allW t.ps).length → ∀ j, j < i → ApartP ((allW t.ps).getD j wi0) ((allW t.ps).getD i wi0)) := hq
  have HU : Hid (Und X B t a) := hu
  have HEV : Hid (∀ (Y : World) A c, (allW t.ps).length ≤ c → GSeg 3 Y A (allW t.ps).length (wiX (allW t.ps)) → Calls Tryz.prog 124 #[.slice A (allW t.ps).length c, .func (.func 125) #[] #[]] Y fun e w' => e = .returned (.bool q) ∧ Below Y.heap.size Y w') := fun Y A c hc hs => by
    have hd : ∀ j i, ∃ p : Bool, p = true ↔ ApartP ((allW t.ps).getD j wi0) ((allW t.ps).getD i wi0) := fun j i => told _
    exact win_two A c (allW t.ps).length (allW t.ps) (fun j i => (hd j i).choose) q 125 #[] Y hs (by omega) hc e_apart
      (fun i hi j hj Z hZ => impl_apart _ _ _ Z (HFT.out j (by omega)) (HFT.out i hi) (hd j i).choose_spec)
      (HQ.out.trans ⟨fun h i hi j hj => (hd j i).choose_spec.2 (h i hi j hj), fun h i hi j hj => (hd j i).choose_spec.1 (h i hi j hj)⟩)
  clear hu hp hq HL h8 h12 hwn HFT HQ
  go_enter Tryz.func123, Tryz.ntmps123
  go_wp2_with (first | (refine wpList_load_row rfl 40 (.tmp 0) rfl B rfl 40 (tbA t a) (0, 0) _ HXX.out Tryz.underlying40 rfl (by kernel_rfl) ?_) | fail)
  refine Calls.mono (HAL.out _ HU.out.m) ?_
  rintro e w1 ⟨⟨A, c, rfl, hAc, hAs⟩, hb1⟩
  have HU1 : Hid (Und w1 B t a) := HU.out.below hb1
  have HB1 : Hid (Below X.heap.size X w1) := hb1
  have HAA : Hid ((allW t.ps).length ≤ c ∧ GSeg 3 w1 A (allW t.ps).length (wiX (allW t.ps))) := ⟨hAc, hAs⟩
  clear hb1 hAc hAs
  go_wp2_with fail
  refine Calls.mono (HEV.out _ A c HAA.out.1 HAA.out.2) ?_
  rintro e w2 ⟨rfl, hb2⟩
  have HB2 : Hid (Below X.heap.size X w2) := HB1.out.trans (hb2.mono HB1.out.size)
  clear hb2
  go_wp2
  go_ret
  exact ⟨rfl, HB2.out⟩
end Go.Proofs.YtofibnmbgfggkaaGreatDoor
