
/-
  What the program's linked row does: the way with a tag is taken out, the one beyond the most is cut off. No conditions but those that each fact names.
-/
import Derived.Test.YtmbpmhmehiiiaaaRows
import Derived.Test.YtmbpmhmehiiiaaaLps
import Derived.Deep.LoopGhost
namespace Go.Proofs.Ytmbpmhmehiiiaaa
open Go.ChangeShapes Go.WideShapes Go.ChangeAt Go.RowKit Go.Deep
set_option linter.unusedVariables false

abbrev posT (ws : List Wy) (t : Int) : Nat := ws.findIdx fun x => x.1 == t
theorem posT_lt {ws : List Wy} {t : Int} {i : Nat} (h : i < posT ws t) : i < ws.length ∧ (ws.getD i wd).1 ≠ t := by
  have h1 := List.findIdx_le_length (p := fun x : Wy => x.1 == t) (xs := ws)
  have h2 : i < ws.length := Nat.lt_of_lt_of_le h h1
  have := List.not_of_lt_findIdx h
  refine ⟨h2, ?_⟩
  simpa [List.getD, h2] using this
theorem posT_at {ws : List Wy} {t : Int} (h : posT ws t < ws.length) : (ws.getD (posT ws t) wd).1 = t := by
  have := List.findIdx_getElem (w := h)
  simpa [List.getD, h] using this
theorem LL.next {w : World} {hd : Nat} {bs : List Nat} {v0 : Wy} {ws : List Wy} (h : LL w (hd :: bs) (v0 :: ws)) (i b : Nat) (hb : (hd :: bs)[i]? = some b) : w.cell? ⟨b, 2, none⟩ = some (ptrV bs[i]?) ∧ b < w.heap.size := by
  have := (h.blk i b hb)
  exact ⟨by have := this.cell 2 _ rfl; simpa using this, this.lt⟩
theorem LL.held {w : World} {hd : Nat} {bs : List Nat} {v0 : Wy} {ws : List Wy} (h : LL w (hd :: bs) (v0 :: ws)) (i c : Nat) (hc : bs[i]? = some c) : w.cell? ⟨c, 0, none⟩ = some (.int .i64 (ws.getD i wd).1) ∧ w.cell? ⟨c, 1, none⟩ = some (.bool (ws.getD i wd).2) := by
  have := h.blk (i + 1) c (by simpa using hc)
  exact ⟨by have := this.cell 0 _ rfl; simpa using this, by have := this.cell 1 _ rfl; simpa using this⟩
theorem LL.lens {w : World} {hd : Nat} {bs : List Nat} {v0 : Wy} {ws : List Wy} (h : LL w (hd :: bs) (v0 :: ws)) : bs.length = ws.length := by have := h.len; simpa using this
set_option maxHeartbeats 2000000 in
theorem row_take (hd B : Nat) (bs : List Nat) (v0 : Wy) (ws : List Wy) (t : Int) (w : World) (hL : LL w (hd :: bs) (v0 :: ws)) (hc : w.cell? ⟨B, 0, none⟩ = some (.int .i64 t)) :
    Calls Try.prog 41 #[rowV hd, tagF B] w fun e w' => e = .returned (.tuple #[wayV (if posT ws t < ws.length then ws.getD (posT ws t) wd else wd), .bool (decide (posT ws t < ws.length))]) ∧ LL w' (hd :: bs.eraseIdx (posT ws t)) (v0 :: ws.eraseIdx (posT ws t)) ∧ Chg (hd :: bs) w w' := by
  have HLT : Hid (∀ i, i < posT ws t → i < ws.length ∧ (ws.getD i wd).1 ≠ t) := fun i hi => posT_lt hi
  have HAT : Hid (posT ws t < ws.length → (ws.getD (posT ws t) wd).1 = t) := fun h => posT_at h
  have hple : posT ws t ≤ ws.length := List.findIdx_le_length
  generalize posT ws t = p at HLT HAT hple ⊢
  obtain ⟨X, HX⟩ : ∃ X, Hid ((if p < ws.length then ws.getD p wd else wd) = X) := ⟨_, rfl⟩
  obtain ⟨q, HQ⟩ : ∃ q, Hid (decide (p < ws.length) = q) := ⟨_, rfl⟩
  rw [HX.out, HQ.out]
  have hal1 : Below w.heap.size w (w.alloc (.cells #[.pointer (some ⟨hd, 0, none⟩)] 66)) := (Below.refl _ _).alloc (Nat.le_refl _) _
  have hal2 : Below w.heap.size w ((w.alloc (.cells #[.pointer (some ⟨hd, 0, none⟩)] 66)).alloc (.cells #[.int .i64 0, .bool false] 61)) := hal1.alloc hal1.size _
  have HL2 : Hid (LL _ _ _) := hL.below hal2
  have HB2 : Hid _ := hal2
  have HC2 : Hid _ := kept_cell hal2 hc
  have HR2 : Hid _ := Bk.new (w.alloc (.cells #[.pointer (some ⟨hd, 0, none⟩)] 66)) #[.int .i64 0, .bool false] 61 (w.heap.size + 1) (by simp)
  have hlens := hL.lens
  have hhlt := (hL.blk 0 hd rfl).lt
  have HLT0 : Hid _ := hL.lt
  clear hal1 hal2 hL hc
  go_enter Try.func41, Try.ntmps41
  go_wp2
  obtain ⟨W, HW⟩ : ∃ W, Hid ((w.alloc (.cells #[.pointer (some ⟨hd, 0, none⟩)] 66)).alloc (.cells #[.int .i64 0, .bool false] 61) = W) := ⟨_, rfl⟩
  rw [HW.out] at HL2 HB2 HC2 HR2 ⊢
  clear HW
  go_loopg [6] p (fun g at' wr => ∃ i b : Nat, i + g = p ∧ at' = .pointer (some ⟨b, 0, none⟩) ∧ Hid ((hd :: bs)[i]? = some b) ∧ Hid (Below W.heap.size W wr))
  case atStart => exact ⟨0, hd, by omega, rfl, rfl, Below.refl _ _⟩
  case round =>
    obtain ⟨i, b, hig, rfl, HBI, HWB⟩ := hrel
    have hLr := LL.below HL2.out HWB.out
    have hcr := kept_cell HWB.out HC2.out
    obtain ⟨kn, hblt⟩ := hLr.next i b HBI.out
    by_cases hip : i < p
    · obtain ⟨h1, h2⟩ := HLT.out i hip
      have hib : i < bs.length := by omega
      obtain ⟨c, hc⟩ : ∃ c, bs[i]? = some c := ⟨_, List.getElem?_eq_getElem hib⟩
      obtain ⟨d0, d1⟩ := hLr.held i c hc
      rw [hc] at kn
      change _ = some (Value.pointer (some ⟨c, 0, none⟩)) at kn
      have HCI : Hid ((hd :: bs)[i + 1]? = some c) := by show _ = _; simpa using hc
      generalize (ws.getD i wd).1 = z at d0 h2
      generalize (ws.getD i wd).2 = d at d1
      have hz : (z == t) = false := by simpa using h2
      have HT : Hid _ := tag_fn z t d B wr hcr
      have HKN : Hid _ := kn
      clear h2 hc hLr hcr
      go_wp2_with fail
      refine Calls.mono HT.out ?_
      rintro u w2 ⟨rfl, hbb⟩
      rw [hz]
      have kn2 := kept_cell hbb HKN.out
      have HW2 : Hid _ := HWB.out.trans (hbb.mono HWB.out.size)
      clear hbb HT kn d0 d1
      go_wp2
      go_roundg (gk - 1)
      case measure => omega
      case rel => exact ⟨i + 1, c, by omega, rfl, HCI, HW2⟩
    · obtain rfl : i = p := by omega
      by_cases hpl : i < ws.length
      · have hib : i < bs.length := by omega
        have h2 := HAT.out hpl
        obtain ⟨c, hc⟩ : ∃ c, bs[i]? = some c := ⟨_, List.getElem?_eq_getElem hib⟩
        obtain ⟨d0, d1⟩ := hLr.held i c hc
        rw [hc] at kn
        change _ = some (Value.pointer (some ⟨c, 0, none⟩)) at kn
        have HXE : Hid (ws.getD i wd = X) := by have h := HX.out; rw [if_pos hpl] at h; exact h
        have HQE : Hid (true = q) := by have h := HQ.out; rw [decide_eq_true hpl] at h; exact h
        have HGD : Hid ((v0 :: ws).getD (i + 1) wd = ws.getD i wd) := by show _ = _; simp
        generalize ws.getD i wd = x at d0 d1 h2 HGD HXE
        obtain ⟨z, d⟩ := x
        simp only at d0 d1 h2
        have hz : (z == t) = true := by simpa using h2
        have HT : Hid _ := tag_fn z t d B wr hcr
        have HKN : Hid _ := kn
        clear h2 hc hLr hcr
        go_wp2_with fail
        refine Calls.mono HT.out ?_
        rintro u w2 ⟨rfl, hbb⟩
        rw [hz]
        have kn2 := kept_cell hbb HKN.out
        have HW2 : Hid _ := HWB.out.trans (hbb.mono HWB.out.size)
        have HBW : Hid _ := HB2.out.trans (HW2.out.mono HB2.out.size)
        have HNC : Hid _ := node_cut (hd :: bs) (v0 :: ws) i b w2 (LL.below HL2.out HW2.out) HBI.out
        rw [if_pos (by simp; omega), HGD.out] at HNC
        clear hbb HT kn d0 d1
        go_wp2_with fail
        refine Calls.mono HNC.out ?_
        rintro u w3 ⟨rfl, h3, hch⟩
        simp only [List.eraseIdx_cons_succ] at h3
        have R3 := (HR2.out.below HW2.out).chg hch (fun c => by simp only [List.mem_singleton] at c; have := HLT0.out b (List.mem_of_getElem? HBI.out); omega)
        have hlt1 : w.heap.size + 1 < w3.heap.size := R3.lt
        have C0 := R3.set 0 (.int .i64 z) (by simp) rfl
        have C1 := C0.set 1 (.bool d) (by simp) rfl
        have f := R3.free
        have m0 := R3.cell 0 _ rfl
        have m1 := C0.cell 1 _ rfl
        have n0 := C1.cell 0 _ rfl
        have n1 := C1.cell 1 _ rfl
        have HZ : Hid (LL ((w3.setCell ⟨w.heap.size + 1, 0, none⟩ (.int .i64 z)).setCell ⟨w.heap.size + 1, 1, none⟩ (.bool d)) (hd :: bs.eraseIdx i) (v0 :: ws.eraseIdx i) ∧ Chg (hd :: bs) w ((w3.setCell ⟨w.heap.size + 1, 0, none⟩ (.int .i64 z)).setCell ⟨w.heap.size + 1, 1, none⟩ (.bool d))) := by
          have hc0 : Chg [w.heap.size + 1] w3 ((w3.setCell ⟨w.heap.size + 1, 0, none⟩ (.int .i64 z)).setCell ⟨w.heap.size + 1, 1, none⟩ (.bool d)) := ((Chg.refl _ w3).set _ 0 _ (by simp)).set _ 1 _ (by simp)
          have hcw : Chg (hd :: bs) w w3 := Chg.trans (ms := [b]) (Below.chg HBW.out) hch (fun k hk => by simp only [List.mem_singleton] at hk; subst hk; exact .inl (List.mem_of_getElem? HBI.out))
          have hmem : ∀ k ∈ hd :: bs.eraseIdx i, k < w.heap.size := fun k hk => HLT0.out k (by
            rcases List.mem_cons.1 hk with e | e
            · simp [e]
            · exact List.mem_cons_of_mem _ (List.mem_of_mem_eraseIdx e))
          exact ⟨LL.chg h3 hc0 (fun k hk c => by simp only [List.mem_singleton] at c; have := hmem k hk; omega), Chg.trans hcw hc0 (fun k hk => by simp only [List.mem_singleton] at hk; subst hk; exact .inr (by omega))⟩
        clear C0 C1 R3 h3 hch HBW HL2 HB2 HC2 HR2
        go_wp2
        exact bodyPost_ret (v := .tuple #[wayV (z, d), .bool true]) (by simp [results, Try.results41, go_sem, n0, n1]) rfl ⟨by rw [← HXE.out, ← HQE.out], HZ.out.1, HZ.out.2⟩
      · have hnone : bs[i]? = none := List.getElem?_eq_none (by omega)
        rw [hnone] at kn
        change _ = some (Value.pointer none) at kn
        have HXE : Hid (((0, false) : Wy) = X) := by have h := HX.out; rw [if_neg hpl] at h; exact h
        have HQE : Hid (false = q) := by have h := HQ.out; rw [decide_eq_false hpl] at h; exact h
        have HBW : Hid _ := HB2.out.trans (HWB.out.mono HB2.out.size)
        have HNC : Hid _ := node_cut (hd :: bs) (v0 :: ws) i b wr hLr HBI.out
        rw [if_neg (by simp; omega)] at HNC
        clear hLr hcr hnone
        go_wp2_with fail
        refine Calls.mono HNC.out ?_
        rintro u w3 ⟨rfl, h3, hch⟩
        simp only [List.eraseIdx_cons_succ] at h3
        have R3 := (HR2.out.below HWB.out).chg hch (fun c => by simp only [List.mem_singleton] at c; have := HLT0.out b (List.mem_of_getElem? HBI.out); omega)
        have hlt1 : w.heap.size + 1 < w3.heap.size := R3.lt
        have C0 := R3.set 0 (.int .i64 0) (by simp) rfl
        have C1 := C0.set 1 (.bool false) (by simp) rfl
        have f := R3.free
        have m0 := R3.cell 0 _ rfl
        have m1 := C0.cell 1 _ rfl
        have n0 := C1.cell 0 _ rfl
        have n1 := C1.cell 1 _ rfl
        have HZ : Hid (LL ((w3.setCell ⟨w.heap.size + 1, 0, none⟩ (.int .i64 0)).setCell ⟨w.heap.size + 1, 1, none⟩ (.bool false)) (hd :: bs.eraseIdx i) (v0 :: ws.eraseIdx i) ∧ Chg (hd :: bs) w ((w3.setCell ⟨w.heap.size + 1, 0, none⟩ (.int .i64 0)).setCell ⟨w.heap.size + 1, 1, none⟩ (.bool false))) := by
          have hc0 : Chg [w.heap.size + 1] w3 ((w3.setCell ⟨w.heap.size + 1, 0, none⟩ (.int .i64 0)).setCell ⟨w.heap.size + 1, 1, none⟩ (.bool false)) := ((Chg.refl _ w3).set _ 0 _ (by simp)).set _ 1 _ (by simp)
          have hcw : Chg (hd :: bs) w w3 := Chg.trans (ms := [b]) (Below.chg HBW.out) hch (fun k hk => by simp only [List.mem_singleton] at hk; subst hk; exact .inl (List.mem_of_getElem? HBI.out))
          have hmem : ∀ k ∈ hd :: bs.eraseIdx i, k < w.heap.size := fun k hk => HLT0.out k (by
            rcases List.mem_cons.1 hk with e | e
            · simp [e]
            · exact List.mem_cons_of_mem _ (List.mem_of_mem_eraseIdx e))
          exact ⟨LL.chg h3 hc0 (fun k hk c => by simp only [List.mem_singleton] at c; have := hmem k hk; omega), Chg.trans hcw hc0 (fun k hk => by simp only [List.mem_singleton] at hk; subst hk; exact .inr (by omega))⟩
        clear C0 C1 R3 h3 hch HBW HL2 HB2 HC2 HR2
        go_wp2
        exact bodyPost_ret (v := .tuple #[wayV (0, false), .bool false]) (by simp [results, Try.results41, go_sem, n0, n1]) rfl ⟨by rw [← HXE.out, ← HQE.out], HZ.out.1, HZ.out.2⟩
set_option maxHeartbeats 2000000 in
theorem row_spill (hd M : Nat) (bs : List Nat) (v0 : Wy) (ws : List Wy) (w : World) (hL : LL w (hd :: bs) (v0 :: ws)) (hM : M ≤ 1000) :
    Calls Try.prog 42 #[rowV hd, .int .i64 (M : Int)] w fun e w' => e = .returned (wayV (if M < ws.length then ws.getD M wd else wd)) ∧ LL w' (hd :: bs.eraseIdx M) (v0 :: ws.eraseIdx M) ∧ Chg (hd :: bs) w w' := by
  obtain ⟨X, HX⟩ : ∃ X, Hid ((if M < ws.length then ws.getD M wd else wd) = X) := ⟨_, rfl⟩
  rw [HX.out]
  have hal1 : Below w.heap.size w (w.alloc (.cells #[.pointer (some ⟨hd, 0, none⟩)] 66)) := (Below.refl _ _).alloc (Nat.le_refl _) _
  have hal2 : Below w.heap.size w ((w.alloc (.cells #[.pointer (some ⟨hd, 0, none⟩)] 66)).alloc (.cells #[.int .i64 0, .bool false] 61)) := hal1.alloc hal1.size _
  have HL2 : Hid (LL _ _ _) := hL.below hal2
  have HB2 : Hid _ := hal2
  have HR2 : Hid _ := Bk.new (w.alloc (.cells #[.pointer (some ⟨hd, 0, none⟩)] 66)) #[.int .i64 0, .bool false] 61 (w.heap.size + 1) (by simp)
  have hlens := hL.lens
  have hhlt := (hL.blk 0 hd rfl).lt
  have HLT0 : Hid _ := hL.lt
  clear hal1 hal2 hL
  go_enter Try.func42, Try.ntmps42
  go_wp2
  obtain ⟨W, HW⟩ : ∃ W, Hid ((w.alloc (.cells #[.pointer (some ⟨hd, 0, none⟩)] 66)).alloc (.cells #[.int .i64 0, .bool false] 61) = W) := ⟨_, rfl⟩
  rw [HW.out] at HL2 HB2 HR2 ⊢
  clear HW
  go_loopw [5, 6] (fun at' n wr => ∃ i b : Nat, i ≤ M ∧ i ≤ ws.length ∧ n = .int .i64 i ∧ at' = .pointer (some ⟨b, 0, none⟩) ∧ wr = W ∧ Hid ((hd :: bs)[i]? = some b)) (fun _ n _ => M - (intOf n).toNat)
  case atStart => exact ⟨0, hd, by omega, by omega, rfl, rfl, rfl, rfl⟩
  case round =>
    obtain ⟨i, b, hiM, hil, rfl, rfl, rfl, HBI⟩ := hrel
    obtain ⟨kn, hblt⟩ := LL.next HL2.out i b HBI.out
    by_cases hM2 : i < M
    rotate_left
    · obtain rfl : i = M := by omega
      have HNC : Hid _ := node_cut (hd :: bs) (v0 :: ws) i b wr HL2.out HBI.out
      have HEQ : Hid ((if i + 1 < (hd :: bs).length then (v0 :: ws).getD (i + 1) wd else wd) = X) := by
        show _ = _
        rw [← HX.out]
        by_cases c : i < ws.length
        · rw [if_pos (by simp; omega), if_pos c]; simp
        · rw [if_neg (by simp; omega), if_neg c]
      rw [HEQ.out] at HNC
      obtain ⟨z, d⟩ := X
      have HXE : Hid ((z, d) = ((z, d) : Wy)) := rfl
      go_wp2_with fail
      refine Calls.mono HNC.out ?_
      rintro u w3 ⟨rfl, h3, hch⟩
      simp only [List.eraseIdx_cons_succ] at h3
      have R3 := HR2.out.chg hch (fun c => by simp only [List.mem_singleton] at c; have := HLT0.out b (List.mem_of_getElem? HBI.out); omega)
      have hlt1 : w.heap.size + 1 < w3.heap.size := R3.lt
      have C0 := R3.set 0 (.int .i64 z) (by simp) rfl
      have C1 := C0.set 1 (.bool d) (by simp) rfl
      have f := R3.free
      have m0 := R3.cell 0 _ rfl
      have m1 := C0.cell 1 _ rfl
      have n0 := C1.cell 0 _ rfl
      have n1 := C1.cell 1 _ rfl
      have HZ : Hid (LL ((w3.setCell ⟨w.heap.size + 1, 0, none⟩ (.int .i64 z)).setCell ⟨w.heap.size + 1, 1, none⟩ (.bool d)) (hd :: bs.eraseIdx i) (v0 :: ws.eraseIdx i) ∧ Chg (hd :: bs) w ((w3.setCell ⟨w.heap.size + 1, 0, none⟩ (.int .i64 z)).setCell ⟨w.heap.size + 1, 1, none⟩ (.bool d))) := by
        have hc0 : Chg [w.heap.size + 1] w3 ((w3.setCell ⟨w.heap.size + 1, 0, none⟩ (.int .i64 z)).setCell ⟨w.heap.size + 1, 1, none⟩ (.bool d)) := ((Chg.refl _ w3).set _ 0 _ (by simp)).set _ 1 _ (by simp)
        have hcw : Chg (hd :: bs) w w3 := Chg.trans (ms := [b]) (Below.chg HB2.out) hch (fun k hk => by simp only [List.mem_singleton] at hk; subst hk; exact .inl (List.mem_of_getElem? HBI.out))
        have hmem : ∀ k ∈ hd :: bs.eraseIdx i, k < w.heap.size := fun k hk => HLT0.out k (by
          rcases List.mem_cons.1 hk with e | e
          · simp [e]
          · exact List.mem_cons_of_mem _ (List.mem_of_mem_eraseIdx e))
        exact ⟨LL.chg h3 hc0 (fun k hk c => by simp only [List.mem_singleton] at c; have := hmem k hk; omega), Chg.trans hcw hc0 (fun k hk => by simp only [List.mem_singleton] at hk; subst hk; exact .inr (by omega))⟩
      clear C0 C1 R3 h3 hch HL2 HB2 HR2
      go_wp2
      exact bodyPost_ret (v := wayV (z, d)) (by simp [results, Try.results42, go_sem, n0, n1]) rfl ⟨by first | rfl | rw [← HXE.out], HZ.out.1, HZ.out.2⟩
    have hM2' : (i : Int) < (M : Int) := by omega
    by_cases hpl : i < ws.length
    · have hib : i < bs.length := by omega
      obtain ⟨c, hc⟩ : ∃ c, bs[i]? = some c := ⟨_, List.getElem?_eq_getElem hib⟩
      rw [hc] at kn
      change _ = some (Value.pointer (some ⟨c, 0, none⟩)) at kn
      have HCI : Hid ((hd :: bs)[i + 1]? = some c) := by show _ = _; simpa using hc
      clear hc
      go_wp2
      go_roundw
      case rel => exact ⟨i + 1, c, by omega, by omega, by go_num, rfl, trivial, HCI⟩
      case measure => simp [intOf]; omega
    · have hnone : bs[i]? = none := List.getElem?_eq_none (by omega)
      rw [hnone] at kn
      change _ = some (Value.pointer none) at kn
      have HXE : Hid (((0, false) : Wy) = X) := by have h := HX.out; rw [if_neg (by omega)] at h; exact h
      have HNC : Hid _ := node_cut (hd :: bs) (v0 :: ws) i b wr HL2.out HBI.out
      rw [if_neg (by simp; omega)] at HNC
      clear hnone
      go_wp2_with fail
      refine Calls.mono HNC.out ?_
      rintro u w3 ⟨rfl, h3, hch⟩
      simp only [List.eraseIdx_cons_succ] at h3
      rw [List.eraseIdx_of_length_le (by omega), List.eraseIdx_of_length_le (by omega)] at h3
      rw [← List.eraseIdx_of_length_le (l := bs) (k := M) (by omega), ← List.eraseIdx_of_length_le (l := ws) (k := M) (by omega)] at h3
      have R3 := HR2.out.chg hch (fun c => by simp only [List.mem_singleton] at c; have := HLT0.out b (List.mem_of_getElem? HBI.out); omega)
      have hlt1 : w.heap.size + 1 < w3.heap.size := R3.lt
      have C0 := R3.set 0 (.int .i64 0) (by simp) rfl
      have C1 := C0.set 1 (.bool false) (by simp) rfl
      have f := R3.free
      have m0 := R3.cell 0 _ rfl
      have m1 := C0.cell 1 _ rfl
      have n0 := C1.cell 0 _ rfl
      have n1 := C1.cell 1 _ rfl
      have HZ : Hid (LL ((w3.setCell ⟨w.heap.size + 1, 0, none⟩ (.int .i64 0)).setCell ⟨w.heap.size + 1, 1, none⟩ (.bool false)) (hd :: bs.eraseIdx M) (v0 :: ws.eraseIdx M) ∧ Chg (hd :: bs) w ((w3.setCell ⟨w.heap.size + 1, 0, none⟩ (.int .i64 0)).setCell ⟨w.heap.size + 1, 1, none⟩ (.bool false))) := by
        have hc0 : Chg [w.heap.size + 1] w3 ((w3.setCell ⟨w.heap.size + 1, 0, none⟩ (.int .i64 0)).setCell ⟨w.heap.size + 1, 1, none⟩ (.bool false)) := ((Chg.refl _ w3).set _ 0 _ (by simp)).set _ 1 _ (by simp)
        have hcw : Chg (hd :: bs) w w3 := Chg.trans (ms := [b]) (Below.chg HB2.out) hch (fun k hk => by simp only [List.mem_singleton] at hk; subst hk; exact .inl (List.mem_of_getElem? HBI.out))
        have hmem : ∀ k ∈ hd :: bs.eraseIdx M, k < w.heap.size := fun k hk => HLT0.out k (by
          rcases List.mem_cons.1 hk with e | e
          · simp [e]
          · exact List.mem_cons_of_mem _ (List.mem_of_mem_eraseIdx e))
        exact ⟨LL.chg h3 hc0 (fun k hk c => by simp only [List.mem_singleton] at c; have := hmem k hk; omega), Chg.trans hcw hc0 (fun k hk => by simp only [List.mem_singleton] at hk; subst hk; exact .inr (by omega))⟩
      clear C0 C1 R3 h3 hch HL2 HB2 HR2
      go_wp2
      exact bodyPost_ret (v := wayV (0, false)) (by simp [results, Try.results42, go_sem, n0, n1]) rfl ⟨by first | rfl | rw [← HXE.out], HZ.out.1, HZ.out.2⟩
end Go.Proofs.Ytmbpmhmehiiiaaa
