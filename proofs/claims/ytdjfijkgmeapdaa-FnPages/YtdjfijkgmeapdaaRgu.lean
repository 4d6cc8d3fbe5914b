
/-
  The ring of pages: a page is used, the pages are told, a ring is made of pages. Conditions: the ring is one; the pages are right.
-/
import Derived.Test.YtdjfijkgmeapdaaProg
import Derived.Test.YtdjfijkgmeapdaaRga
namespace Go.Proofs.Ytdjfijkgmeapdaa
open Go.ChangeShapes Go.WideShapes Go.ChangeAt Go.RowKit Go.Deep Go.Maps
set_option linter.unusedVariables false

theorem kept_cell' {w w' : World} {b o B : Nat} {v : Value} (hb : Below B w w') (hlt : b < B) (h : w.cell? ⟨b, o, none⟩ = some v) : w'.cell? ⟨b, o, none⟩ = some v := (hb.cell (p := ⟨b, o, none⟩) hlt).trans h
def useU (s : Int) (L : List Int) (x : Int) : List Int := if x ∈ L then L else pushU s L x
theorem use_any (B M : Nat) (s x : Int) (o : Nat) (ps : Nat → Int) (L : List Int) (w : World) (h : Rg w B M s o ps L) (hx : 0 ≤ x ∧ x ≤ 1023) :
    Calls Try.prog 21 #[rp B, .int .i64 x] w fun e w' => e = .returned (.bool (L.contains x)) ∧ (∃ o' ps', Rg w' B M s o' ps' (useU s L x)) ∧ Two B M w w' := by
  have HR : Hid _ := h
  have HX : Hid _ := hx
  have HC : Hid _ := holds_any B M x L w h.c10 h.set (wf_page hx)
  clear h hx
  unfold useU
  by_cases hin : x ∈ L
  · rw [if_pos hin]
    have HE : Hid (L.contains x = true) := List.contains_iff_mem.2 hin
    rw [HE.out] at HC ⊢
    clear hin
    go_enter Try.func21, Try.ntmps21
    go_wp2_with fail
    refine Calls.mono HC.out ?_
    rintro u w1 ⟨rfl, hb1⟩
    have HB : Hid _ := hb1
    clear hb1
    go_wp2
    go_ret
    exact ⟨rfl, ⟨_, _, Rg.below HR.out HB.out⟩, Below.two HB.out⟩
  · rw [if_neg hin]
    have HE : Hid (L.contains x = false) := by show _ = _; rw [List.contains_eq_mem]; exact decide_eq_false hin
    have HN : Hid _ := hin
    rw [HE.out] at HC ⊢
    clear hin
    go_enter Try.func21, Try.ntmps21
    go_wp2_with fail
    refine Calls.mono HC.out ?_
    rintro u w1 ⟨rfl, hb1⟩
    have HB : Hid _ := hb1
    clear hb1
    go_wp2_with fail
    refine Calls.mono (add_any B M s x o ps L _ (Rg.below HR.out HB.out) HX.out HN.out) ?_
    rintro u w2 ⟨rfl, hr2, ht2⟩
    have HZ : Hid _ := And.intro hr2 (Two.trans (Below.two HB.out) ht2)
    clear hr2 ht2
    go_wp2
    go_ret
    exact ⟨rfl, HZ.out.1, HZ.out.2⟩
set_option maxHeartbeats 1000000 in
set_option maxRecDepth 100000 in
theorem list_any (B M N : Nat) (s : Int) (o : Nat) (ps : Nat → Int) (L : List Int) (w : World) (h : Rg w B M s o ps L) (hL : L.length = N) :
    Calls Try.prog 27 #[rp B] w fun e w' => (∃ v, e = .returned v ∧ OwnL w' w.heap.size v L) ∧ Below w.heap.size w w' := by
  have hN8 : N ≤ 8 := by have := h.s8; have := h.ls; omega
  have ho := h.ol
  obtain ⟨D, hown, hD1, hD2⟩ := h.set
  have hsz : Maps.size D = N := by rw [hD2, hL]
  have hal : Below w.heap.size w (w.alloc (.cells #[] 3)) := (Below.refl _ _).alloc (Nat.le_refl _) _
  have HOWN : Hid ((w.alloc (.cells #[] 3)).ownsMap Try.prog 3 unitElem M N D) := by rw [hL] at hown; exact hown.alloc _
  have HR : Hid _ := h
  have c10 := (h.below hal).c10
  have HL : Hid _ := hL
  have HO : Hid (OwnL _ _ _ _) := OwnL.new w w.heap.size rfl
  have HB : Hid _ := hal
  obtain ⟨i3, hi1, hi2, hi3, hi4⟩ := info3'
  have HI : Hid _ := And.intro hi1 (And.intro hi2 (And.intro hi3 hi4))
  clear hi1 hi2 hi3 hi4 h hL hal hown hD1 hD2
  show Calls Try.prog 27 #[.pointer (some ⟨B, 0, none⟩)] w _
  go_enter Try.func27, Try.ntmps27
  go_wp2_with (at_len; refine wpList_len_own _ rfl _ 53 rfl 3 58 Try.underlying53 _ M N D rfl HOWN.out ?_; rw [hsz])
  clear c10 hsz HOWN
  go_loopw [3, 11] (fun v i wr => ∃ k : Nat, k ≤ N ∧ i = .int .i64 k ∧ Hid (Below w.heap.size w wr ∧ OwnL wr w.heap.size v (L.take k))) (fun _ i _ => N - (intOf i).toNat)
  case atStart => exact ⟨0, by omega, rfl, HB.out, HO.out⟩
  case round =>
    obtain ⟨k, hk, rfl, HK⟩ := hrel
    by_cases hlt : k < N
    rotate_left
    · obtain rfl : k = N := by omega
      go_wp2
      go_ret
      have h2 := HK.out.2
      rw [List.take_of_length_le (by rw [HL.out]; exact Nat.le_refl _)] at h2
      exact ⟨⟨_, rfl, h2⟩, HK.out.1⟩
    have hlt' : (k : Int) < (N : Int) := by omega
    have hr := Rg.below HR.out (w' := wr) HK.out.1
    have c9 := hr.c9
    obtain ⟨q, HQ⟩ : ∃ q, Hid ((o + k) % 8 = q) := ⟨_, rfl⟩
    have hq8 : q < 8 := by rw [← HQ.out]; omega
    have hq8' : (q : Int) < 8 := by omega
    have cq := hr.cp q hq8
    have HX : Hid (ps q = L.getD k 0) := by rw [← HQ.out]; exact hr.at' k (by rw [HL.out]; exact hlt)
    have HT : Hid (L.take (k + 1) = L.take k ++ [ps q]) := by show _ = _; rw [take_getD L k (by rw [HL.out]; exact hlt), HX.out]
    have hyl : (L.take k).length = k := by rw [List.length_take, HL.out]; omega
    have hown2 : (wr.alloc (.cells #[.int .i64 (ps q)] 3)).ownsRow w.heap.size 3 1 u3 (L.take k).length ((L.take k).map (Value.int .i64)) := World.ownsRow.alloc HK.out.2 _
    have hlow := own_low HK.out.2
    have HLOW : Hid _ := hlow
    have hsz : w.heap.size ≤ wr.heap.size := HK.out.1.size
    generalize L.take k = ys at HT hyl hown2
    generalize ps q = z at cq HT hown2
    clear hr hlow HX
    go_wp2
    go_region_law
      (first | (refine step_append_lies _ rfl (.tmp 14) (.tmp 23) 24 rfl w.heap.size 3 i3 (.int .i64 0) 1 8 Try.underlying24 HI.out.1 HI.out.2.1 HI.out.2.2.1 HI.out.2.2.2 rfl (by omega) u3 ys.length (ys.map (Value.int .i64)) rfl hown2 ⟨wr.heap.size, 0, none⟩ 1 1 [.int .i64 z] rfl rfl (news_int wr _ _ rfl) (one_int _) (by omega) (by unfold maxLen; omega) (by omega) (by simp; omega) _ rfl ?_; intro g cap1 w9 hown1 hgrow hat hlt1; have HY : Hid _ := And.intro hown1 hgrow; clear hown1 hgrow hat hlt1) | (go_simp; go_at_call 33; refine Calls.mono (place_any B o k _ c9 ho (by omega)) ?_; rintro u w2 ⟨rfl, rfl⟩; rw [HQ.out]))
    have HZ : Hid (Below w.heap.size w w9 ∧ OwnL w9 w.heap.size (.slice (some ⟨g, 0, none⟩) (k + 1) cap1) (L.take (k + 1))) := by
      obtain ⟨hown1, hgrow⟩ := HY.out
      have hb1 := HK.out.1.alloc HK.out.1.size (.cells #[.int .i64 z] 3)
      have hs1 := OwnL.snoc hown1
      rw [← HT.out, hyl] at hs1
      exact ⟨Below.grown hb1.drew hgrow (by have := hb1.size; show _ ≤ (wr.alloc _).heap.size; omega) (fun g e => HLOW.out g e), hs1⟩
    clear HY HK HLOW hown2 cq c9
    go_wp2
    go_roundw
    case rel => exact ⟨k + 1, by omega, by go_num, HZ⟩
    case measure => simp [intOf]; omega
set_option maxHeartbeats 1000000 in
theorem ring_of (s : Int) (a : Option Addr) (cap N : Nat) (zs : List Int) (w : World) (hs : Seg .i64 w a zs) (hL : zs.length = N) (h8 : 1 ≤ s ∧ s ≤ 8) (hN : (N : Int) ≤ s) (hnd : zs.Nodup) (hpg : ∀ x ∈ zs, 0 ≤ x ∧ x ≤ 1023) :
    Calls Try.prog 19 #[.int .i64 s, .slice a N cap] w fun e w' => e = .returned (rp (w.heap.size + 1)) ∧ (∃ o ps, Rg w' (w.heap.size + 1) w.heap.size s o ps zs) ∧ Below w.heap.size w w' := by
  have hmm := @run_makeMap Try.prog
  have HS : Hid (Seg .i64 w a zs) := hs
  have HL : Hid _ := hL
  have HP : Hid _ := And.intro hnd hpg
  have hal : Below w.heap.size w ((w.alloc (.map #[] 0)).alloc (.cells #[.int .i64 s, .int .i64 0, .int .i64 0, .int .i64 0, .int .i64 0, .int .i64 0, .int .i64 0, .int .i64 0, .int .i64 0, .int .i64 0, .map (some w.heap.size)] 56)) := ((Below.refl _ _).alloc (Nat.le_refl _) _).alloc (by simp) _
  have hr0 : Rg ((w.alloc (.map #[] 0)).alloc (.cells #[.int .i64 s, .int .i64 0, .int .i64 0, .int .i64 0, .int .i64 0, .int .i64 0, .int .i64 0, .int .i64 0, .int .i64 0, .int .i64 0, .map (some w.heap.size)] 56)) (w.heap.size + 1) w.heap.size s 0 (fun _ => 0) [] := by
    have B0 := Bk.new (w.alloc (.map #[] 0)) #[.int .i64 s, .int .i64 0, .int .i64 0, .int .i64 0, .int .i64 0, .int .i64 0, .int .i64 0, .int .i64 0, .int .i64 0, .int .i64 0, .map (some w.heap.size)] 56 (w.heap.size + 1) (by simp)
    refine ⟨B0.lt, B0.cell 0 _ rfl, fun i hi => B0.cell (1 + i) _ ?_, B0.cell 9 _ rfl, B0.cell 10 _ rfl, B0.free, (SetM.new w).same ?_, by omega, by omega, by simp; omega, h8, fun i hi => absurd hi (by simp), List.nodup_nil, by simp⟩
    · match i, hi with
      | 0, _ => rfl
      | 1, _ => rfl
      | 2, _ => rfl
      | 3, _ => rfl
      | 4, _ => rfl
      | 5, _ => rfl
      | 6, _ => rfl
      | 7, _ => rfl
    · exact (((Below.refl (w.heap.size + 1) (w.alloc (.map #[] 0))).alloc (by simp) _).block w.heap.size (by omega))
  have HB : Hid _ := And.intro hal hr0
  clear hs hL hnd hpg hal hr0
  go_enter Try.func19, Try.ntmps19
  go_wp2
  generalize (w.alloc (.map #[] 0)).alloc (.cells #[.int .i64 s, .int .i64 0, .int .i64 0, .int .i64 0, .int .i64 0, .int .i64 0, .int .i64 0, .int .i64 0, .int .i64 0, .int .i64 0, .map (some w.heap.size)] 56) = w0 at HB
  go_loopw [14] (fun i wr => ∃ k : Nat, k ≤ N ∧ i = .int .i64 k ∧ Hid (Below w.heap.size w wr ∧ ∃ o ps, Rg wr (w.heap.size + 1) w.heap.size s o ps (zs.take k))) (fun i _ => N - (intOf i).toNat)
  case atStart => exact ⟨0, by omega, rfl, HB.out.1, 0, _, HB.out.2⟩
  case round =>
    obtain ⟨k, hk, rfl, HK⟩ := hrel
    by_cases hlt : k < N
    rotate_left
    · obtain rfl : k = N := by omega
      go_wp2
      go_ret
      have h2 := HK.out.2
      rw [List.take_of_length_le (by rw [HL.out]; exact Nat.le_refl _)] at h2
      exact ⟨rfl, h2, HK.out.1⟩
    have hlt' : (k : Int) < (N : Int) := by omega
    have hl : k < zs.length := by rw [HL.out]; exact hlt
    obtain ⟨b1, o1, rfl, hbl1, e1⟩ := Seg.at (w := w) HS.out k hl
    replace e1 := kept_cell' HK.out.1 hbl1 e1
    have HT := take_getD zs k hl
    have HTT : Hid _ := HT
    have hmem : zs.getD k 0 ∈ zs := getD_mem zs k hl
    have HX : Hid _ := HP.out.2 _ hmem
    have HNI : Hid (zs.getD k 0 ∉ zs.take k) := by
      have := HP.out.1.sublist (List.take_sublist (k + 1) zs)
      rw [HT] at this
      have := (List.nodup_append.1 this).2.2
      exact fun c => this _ c _ (by simp) rfl
    generalize zs.getD k 0 = z at e1 HX HNI HTT
    clear HT hmem hbl1
    go_wp2_with fail
    obtain ⟨hbw, o0, ps0, hr⟩ := HK.out
    refine Calls.mono (add_room (w.heap.size + 1) w.heap.size k s z o0 ps0 (zs.take k) _ hr (by rw [List.length_take]; omega) (by omega) HX.out HNI.out) ?_
    rintro u w2 ⟨rfl, hr2, ht2⟩
    have HZ : Hid (Below w.heap.size w w2 ∧ ∃ o ps, Rg w2 (w.heap.size + 1) w.heap.size s o ps (zs.take (k + 1))) := ⟨hbw.trans (ht2.below hbw.size (by omega) (Nat.le_refl _)), by rw [HTT.out]; exact hr2⟩
    clear hr hr2 ht2 hbw HK e1
    go_wp2
    go_roundw
    case rel => exact ⟨k + 1, by omega, by go_num, HZ⟩
    case measure => simp [intOf]; omega
end Go.Proofs.Ytdjfijkgmeapdaa
