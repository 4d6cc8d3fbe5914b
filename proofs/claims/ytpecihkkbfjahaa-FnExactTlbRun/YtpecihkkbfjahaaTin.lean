/-
  What the laws' helpers on tables of pages do: a copy, the measure, whether two are alike, the marks; and how a table that came in is read. Conditions: the pages read as integers; lengths are at most 1048576.
-/
import Derived.Test.YtpecihkkbfjahaaRows
import Derived.Test.YtpecihkkbfjahaaOnl
import Derived.Deep.SlicePairs
import Derived.Lib.SmallJoins
namespace Go.Proofs.Ytpecihkkbfjahaa
open Go.ChangeShapes Go.WideShapes Go.ChangeAt Go.RowKit Go.Joins Go.Deep
set_option linter.unusedVariables false

abbrev tlb (s : Int) (v : Value) : Value := .agg #[.int .i64 s, v]
set_option maxHeartbeats 400000 in
theorem to_ints (a : Option Addr) (cap n : Nat) (zs : List Int) (w : World) (hs : Seg .i64 w a zs) (hl : zs.length = n) (hn : n ≤ 1048576) :
    Calls Try.prog 22 #[.slice a n cap] w fun e w' => e = .returned (.slice (some ⟨w.heap.size, 0, none⟩) n n) ∧ Below w.heap.size w w' ∧ OI w' w.heap.size w'.heap.size (some ⟨w.heap.size, 0, none⟩) zs := by
  have HS : Hid (Seg .i64 w a zs) := hs
  have Hn : Hid _ := hl
  clear hs hl
  have hmk := run_make_row' (P := Try.prog) 22 3 (.int .i64 0) 8 Try.underlying22 info3 rfl .i64 .i64 n (by omega) (by omega)
  go_enter Try.func22, Try.ntmps22
  go_wp2
  go_loopw [4] (fun i wr => ∃ k : Nat, k ≤ n ∧ i = .int .i64 k ∧ Hid (Below w.heap.size w wr ∧ wr.heap.size = w.heap.size + 1 ∧ Own .i64 wr w.heap.size (zs.take k ++ List.replicate (zs.length - k) 0))) (fun i _ => n - (intOf i).toNat)
  case atStart => exact ⟨0, by omega, rfl, (Below.refl _ _).alloc (Nat.le_refl _) _, by simp, by simpa [Hn.out] using Own.made .i64 w zs.length 3 0⟩
  case round =>
    obtain ⟨k, hk, rfl, HR⟩ := hrel
    obtain ⟨hb, hsz, HO⟩ := HR.out
    by_cases hlt : k < n
    · have hl : k < zs.length := by rw [Hn.out]; exact hlt
      have hlt' : (k : Int) < (n : Int) := by omega
      obtain ⟨b, off, rfl, hbl, hc⟩ := Seg.at (w := w) HS.out k hl
      have hc1 : wr.cell? ⟨b, off + k, none⟩ = some (.int .i64 (zs.getD k 0)) := (hb.cell (p := ⟨b, off + k, none⟩) hbl).trans hc
      have hlc := copy_len zs k (by omega)
      have HO2 := HO.set k (zs.getD k 0) (by omega)
      rw [copy_step zs k hl] at HO2
      obtain ⟨u, hu⟩ : ∃ u, wr.cell? ⟨w.heap.size, k, none⟩ = some u := ⟨_, HO.cell k (by omega)⟩
      have hf := HO.free k
      have hb2 := hb.setCell (p := ⟨w.heap.size, k, none⟩) (Nat.le_refl _) (.int .i64 (zs.getD k 0))
      have hsz2 : (wr.setCell ⟨w.heap.size, k, none⟩ (.int .i64 (zs.getD k 0))).heap.size = w.heap.size + 1 := by simpa using hsz
      have HB2 : Hid _ := And.intro hb2 (And.intro hsz2 HO2)
      generalize zs.getD k 0 = z at hc1 HB2
      clear hc hl hlc HO hb2 HO2 hsz2 hb hsz HR
      go_wp2
      go_roundw
      case rel => exact ⟨k + 1, by omega, by go_num, HB2⟩
      case measure => simp [intOf]; omega
    · clear hb hsz HO
      go_wp2
      go_ret
      obtain rfl : k = n := by omega
      obtain ⟨hb, hsz, h3⟩ := HR.out
      rw [← Hn.out, List.take_length, Nat.sub_self, List.replicate_zero, List.append_nil] at h3
      exact ⟨rfl, hb, fun h0 => ⟨w.heap.size, 0, rfl, Nat.le_refl _, h3.lt, h3.lt, fun i hi => by rw [Nat.zero_add]; exact h3.cell i hi, fun i hi => h3.free _⟩⟩
theorem sz_ints (a : Option Addr) (cap n L : Nat) (w : World) (hn : n ≤ 9223372036854775807) (hL : L ≤ 1048576) :
    Calls Try.prog 29 #[.slice a n cap, .int .i64 (L : Int)] w fun e w' => (∃ r : Int, e = .returned (.int .i64 r) ∧ (r < 0 ∨ (r = ((L - n : Nat) : Int) ∧ n ≤ L))) ∧ w' = w := by
  by_cases h : n ≤ L
  · obtain ⟨d, rfl⟩ : ∃ d, L = n + d := ⟨L - n, by omega⟩
    have hw : IntKind.i64.wrap (((n + d : Nat) : Int) - (n : Int)) = (d : Int) := by rw [show ((n + d : Nat) : Int) - (n : Int) = (d : Int) by omega, IntKind.wrap_i64]; omega
    have h0 : ¬ ((d : Int) < 0) := by omega
    go_enter Try.func29, Try.ntmps29
    go_wp2
    go_ret
    exact ⟨⟨_, rfl, by omega⟩, rfl⟩
  · have hw : IntKind.i64.wrap ((L : Int) - (n : Int)) = (L : Int) - (n : Int) := by rw [IntKind.wrap_i64]; omega
    have h0 : (L : Int) - (n : Int) < 0 := by omega
    go_enter Try.func29, Try.ntmps29
    go_wp2
    go_ret
    exact ⟨⟨_, rfl, .inl (by omega)⟩, rfl⟩
theorem sz_tlb (s : Int) (a : Option Addr) (cap n : Nat) (w : World) (hn : n ≤ 9223372036854775807) :
    Calls Try.prog 8 #[tlb s (.slice a n cap), .int .i64 1048576] w fun e w' => (∃ r : Int, e = .returned (.int .i64 r) ∧ (r < 0 ∨ (0 ≤ r ∧ n ≤ 1048576))) ∧ Below w.heap.size w w' := by
  have hbw := (Below.refl _ w).alloc (Nat.le_refl _) (.cells #[.int .i64 s, .slice a n cap] 24)
  have HC : Hid _ := sz_ints a cap n 1048576 (w.alloc (.cells #[.int .i64 s, .slice a n cap] 24)) hn (Nat.le_refl _)
  have HB : Hid _ := hbw
  clear hbw
  go_enter Try.func8, Try.ntmps8
  go_wp2_with fail
  refine Calls.mono HC.out ?_
  rintro u w2 ⟨⟨r, rfl, hr⟩, rfl⟩
  rcases hr with hr | ⟨hr, h1⟩
  · go_wp2
    go_ret
    exact ⟨⟨_, rfl, .inl (by omega)⟩, HB.out⟩
  · have hr0 : ¬ (r < 0) := by omega
    have h2 : 0 ≤ r := by omega
    clear hr
    go_wp2
    go_ret
    exact ⟨⟨_, rfl, .inr ⟨h2, h1⟩⟩, HB.out⟩
set_option maxHeartbeats 1000000 in
theorem to_tlb (s : Int) (a : Option Addr) (cap n : Nat) (zs : List Int) (w : World) (hs : Seg .i64 w a zs) (hl : zs.length = n) (hn : n ≤ 1048576) :
    Calls Try.prog 10 #[tlb s (.slice a n cap)] w fun e w' => ∃ a', e = .returned (tlb s (.slice a' n n)) ∧ Below w.heap.size w w' ∧ OI w' w.heap.size w'.heap.size a' zs := by
  have HS : Hid (Seg .i64 w a zs) := hs
  have HL : Hid _ := hl
  clear hs hl
  have C0 := ((Bk.new w #[.int .i64 s, .slice a n cap] 24 w.heap.size rfl).alloc (.cells #[.int .i64 0, .slice none 0 0] 27)).alloc (.cells #[.int .i64 s, .slice none 0 0] 27)
  have C1 := (Bk.new (w.alloc (.cells #[.int .i64 s, .slice a n cap] 24)) #[.int .i64 0, .slice none 0 0] 27 (w.heap.size + 1) (by simp)).alloc (.cells #[.int .i64 s, .slice none 0 0] 27)
  have C2 := Bk.new ((w.alloc (.cells #[.int .i64 s, .slice a n cap] 24)).alloc (.cells #[.int .i64 0, .slice none 0 0] 27)) #[.int .i64 s, .slice none 0 0] 27 (w.heap.size + 1 + 1) (by simp)
  have hb2 : Below w.heap.size w (((w.alloc (.cells #[.int .i64 s, .slice a n cap] 24)).alloc (.cells #[.int .i64 0, .slice none 0 0] 27)).alloc (.cells #[.int .i64 s, .slice none 0 0] 27)) := (((Below.refl _ w).alloc (Nat.le_refl _) _).alloc (by simp) _).alloc (by simp; omega) _
  have HK : Hid _ := And.intro C0 (And.intro C1 (And.intro C2 hb2))
  clear C0 C1 C2 hb2
  go_enter Try.func10, Try.ntmps10
  go_wp2_with fail
  refine Calls.mono (to_ints a cap n zs _ (Seg.below HS.out HK.out.2.2.2) HL.out hn) ?_
  rintro u w2 ⟨rfl, hb2, hrows⟩
  obtain ⟨C0, C1, C2, hbw2⟩ := HK.out
  have hz : (((w.alloc (.cells #[.int .i64 s, .slice a n cap] 24)).alloc (.cells #[.int .i64 0, .slice none 0 0] 27)).alloc (.cells #[.int .i64 s, .slice none 0 0] 27)).heap.size = w.heap.size + 1 + 1 + 1 := by simp
  have D1 := C1.below hb2
  have D2 := C2.below hb2
  rw [hz] at hrows hb2
  have hbw3 := hbw2.trans (hb2.mono (by omega))
  have E2 := D2.set 1 (.slice (some ⟨w.heap.size + 1 + 1 + 1, 0, none⟩) n n) (by simp) rfl
  have E1 := D1.other (w.heap.size + 1 + 1) 1 (.slice (some ⟨w.heap.size + 1 + 1 + 1, 0, none⟩) n n) (by omega)
  have F1 := E1.set 0 (.int .i64 s) (by simp) rfl
  have F2 := F1.set 1 (.slice (some ⟨w.heap.size + 1 + 1 + 1, 0, none⟩) n n) (by simp) rfl
  have q3 := D2.cell 1 _ rfl
  have g2 := D2.free
  have g1 := D1.free
  have e0 := E2.cell 0 _ rfl
  have e1 := E2.cell 1 _ rfl
  have m0 := E1.cell 0 _ rfl
  have m1 := F1.cell 1 _ rfl
  have n0 := F2.cell 0 _ rfl
  have n1 := F2.cell 1 _ rfl
  have hr4 : OI ((((w2.setCell ⟨w.heap.size + 1 + 1, 1, none⟩ (.slice (some ⟨w.heap.size + 1 + 1 + 1, 0, none⟩) n n)).setCell ⟨w.heap.size + 1, 0, none⟩ (.int .i64 s)).setCell ⟨w.heap.size + 1, 1, none⟩ (.slice (some ⟨w.heap.size + 1 + 1 + 1, 0, none⟩) n n))) (w.heap.size + 1 + 1 + 1) w2.heap.size (some ⟨w.heap.size + 1 + 1 + 1, 0, none⟩) zs :=
    OI.betw (l' := w.heap.size + 1) (h' := w.heap.size + 1 + 1 + 1) hrows ((((Betw.refl _ _ w2).setCell (p := ⟨w.heap.size + 1 + 1, 1, none⟩) (by simp) (by simp) _).setCell (p := ⟨w.heap.size + 1, 0, none⟩) (by simp) (by simp) _).setCell (p := ⟨w.heap.size + 1, 1, none⟩) (by simp) (by simp) _) (.inr (Nat.le_refl _))
  have hb4 := ((hbw3.setCell (p := ⟨w.heap.size + 1 + 1, 1, none⟩) (by simp; omega) (.slice (some ⟨w.heap.size + 1 + 1 + 1, 0, none⟩) n n)).setCell (p := ⟨w.heap.size + 1, 0, none⟩) (by simp) (.int .i64 s)).setCell (p := ⟨w.heap.size + 1, 1, none⟩) (by simp) (.slice (some ⟨w.heap.size + 1 + 1 + 1, 0, none⟩) n n)
  have HZ : Hid _ := And.intro (OI.wide (l' := w.heap.size) (h' := w2.heap.size) hr4 (by omega) (Nat.le_refl _)) hb4
  simp only [hz]
  clear C0 C1 C2 hbw2 hb2 D1 D2 E1 E2 F1 F2 HK hrows hbw3 hz hr4 hb4
  go_wp2
  refine bodyPost_ret (v := tlb s (.slice (some ⟨w.heap.size + 1 + 1 + 1, 0, none⟩) n n)) (by simp [results, Try.results10, go_sem, n0, n1]) rfl ⟨_, rfl, HZ.out.2, OI.wide HZ.out.1 (Nat.le_refl _) (by simp)⟩
set_option maxHeartbeats 400000 in
theorem eq_tlb (s : Int) (a b : Option Addr) (ca cb n : Nat) (zs : List Int) (w : World) (ha : Seg .i64 w a zs) (hb : Seg .i64 w b zs) (hl : zs.length = n) (hn : n ≤ 1048576) :
    Calls Try.prog 12 #[tlb s (.slice a n ca), tlb s (.slice b n cb)] w fun e w' => e = .returned (.bool true) ∧ Below w.heap.size w w' := by
  have hb0 : Below w.heap.size w ((w.alloc (.cells #[.int .i64 s, .slice a n ca] 27)).alloc (.cells #[.int .i64 s, .slice b n cb] 27)) := ((Below.refl _ w).alloc (Nat.le_refl _) _).alloc (by simp) _
  have HC : Hid _ := eq_ints a b ca cb zs _ (ha.below hb0) (hb.below hb0) (by omega)
  rw [hl] at HC
  have HB : Hid _ := hb0
  clear ha hb hb0 hl
  go_enter Try.func12, Try.ntmps12
  go_wp2_with fail
  refine Calls.mono HC.out ?_
  rintro u w2 ⟨rfl, hb2⟩
  have HZ : Hid _ := HB.out.trans (hb2.mono HB.out.size)
  clear hb2
  go_wp2
  go_ret
  exact ⟨rfl, HZ.out⟩
theorem mark_tlb (lo hi cap n k : Nat) (s : Int) (a : Option Addr) (zs : List Int) (w : World) (ho : OI w lo hi a zs) (hl : zs.length = n) (hn : n ≤ 1048576) (hk1 : k ≤ 1000) (hw : hi ≤ w.heap.size) :
    Calls Try.prog 15 #[tlb s (.slice a n cap), .int .i64 (k : Int)] w fun e w' => e = .returned (.int .i64 ((k + n : Nat) : Int)) ∧ Betw lo hi w w' ∧ OI w' lo hi a (marks k n) := by
  have hb0 : Below w.heap.size w (w.alloc (.cells #[.int .i64 s, .slice a n cap] 27)) := (Below.refl _ w).alloc (Nat.le_refl _) _
  have HC : Hid _ := mark_ints lo hi cap n k a zs _ (ho.below hb0) hl hn hk1
  have HB : Hid _ := hb0
  clear ho hb0 hl
  go_enter Try.func15, Try.ntmps15
  go_wp2_with fail
  refine Calls.mono HC.out ?_
  rintro u w2 ⟨rfl, hb2, ho2⟩
  have HZ : Hid _ := And.intro ((Below.betw (lo := lo) (hi := hi) HB.out).trans hb2) ho2
  clear hb2 ho2
  go_wp2
  go_ret
  exact ⟨rfl, HZ.out.1, HZ.out.2⟩
theorem held_tlb (s : Int) (a : Option Addr) (cap n k : Nat) (w : World) (hs : Seg .i64 w a (marks k n)) (hn : n ≤ 1048576) (hk1 : k ≤ 1000) :
    Calls Try.prog 16 #[tlb s (.slice a n cap), .int .i64 (k : Int)] w fun e w' => e = .returned (.int .i64 ((k + n : Nat) : Int)) ∧ Below w.heap.size w w' := by
  have hb0 : Below w.heap.size w (w.alloc (.cells #[.int .i64 s, .slice a n cap] 27)) := (Below.refl _ w).alloc (Nat.le_refl _) _
  have HC : Hid _ := held_ints a cap n k _ (hs.below hb0) hn hk1
  have HB : Hid _ := hb0
  clear hs hb0
  obtain ⟨K, HK⟩ : ∃ K, Hid (k + n = K) := ⟨_, rfl⟩
  rw [HK.out] at HC ⊢
  have hK : ¬ ((K : Int) < 0) := by omega
  go_enter Try.func16, Try.ntmps16
  go_wp2_with fail
  refine Calls.mono HC.out ?_
  rintro u w2 ⟨rfl, rfl⟩
  go_wp2
  go_ret
  exact ⟨rfl, HB.out⟩
theorem array2 {α : Type} {cs : Array α} (h : cs.size = 2) : ∃ c0 c1, cs = #[c0, c1] := by
  obtain ⟨l⟩ := cs
  match l, h with
  | [c0, c1], _ => exact ⟨c0, c1, rfl⟩
theorem list2 {α : Type} {cs : List α} (h : cs.length = 2) : ∃ c0 c1, cs = [c0, c1] := by
  match cs, h with
  | [c0, c1], _ => exact ⟨c0, c1, rfl⟩
theorem laidOut : laidOutB Try.prog = true := by kernel_rfl
theorem cells3 : Try.prog.cellsOf 3 = 1 := by kernel_rfl
theorem cellsTL : Try.prog.cellsOf 24 = 2 := by kernel_rfl
theorem cellsIS : Try.prog.cellsOf 22 = 1 := by kernel_rfl
theorem add_plain (b off i : Nat) : (⟨b, off, none⟩ : Addr).add i = ⟨b, off + i, none⟩ := by
  by_cases e0 : i = 0
  · subst e0; simp [Addr.add]
  · simp [Addr.add, e0]
theorem addr_of {w : World} {a : Addr} {i : Nat} {v : Value} (h : w.cell? (a.add i) = some v) (hi : i = 0) : ∃ b off, a = ⟨b, off, none⟩ ∧ b < w.heap.size := by
  subst hi
  obtain ⟨b, off, spot⟩ := a
  have hspot : spot = none := by simpa [Addr.add] using World.cell?_spot h
  subst hspot
  exact ⟨b, off, rfl, by simpa [Addr.add] using World.block_lt_of_cell? w _ h⟩
theorem ints_open {H : Type} {enc : TypeId × Value → H} {W : World} {base : Nat} {spare : Nat → Bool} {held : Bool} {fuel : Nat} {cs : List Value} {x : DataW H × List MemPlace}
    (h : DataW.trod enc Try.prog W base spare held fuel 22 cs = some x) : ∃ a zs c, cs = [.slice a (List.length zs) c] ∧ Seg .i64 W a zs ∧ zs.length ≤ 9223372036854775807 ∧ ∀ z ∈ zs, (Lit.int .i64 z).wf = true := by
  rcases open_slice1 (P := Try.prog) Try.underlying22 cells3 h with ⟨rfl, _⟩ | ⟨a, len, cap, m, n, V, D, Pl, rfl, hb, hl, hm, hmm, _, hx⟩
  · exact ⟨none, [], 0, rfl, fun h => absurd h (by simp), by simp, by simp⟩
  · have hlm : len ≤ m := by rw [hmm]; split <;> omega
    obtain ⟨Z, hZ⟩ := choose_lt (α := Int) (n := len) (p := fun i z => W.cell? (a.add i) = some (.int .i64 z) ∧ (Lit.int .i64 z).wf = true) (fun i hi => by
      obtain ⟨h0, t0⟩ := hx i (by omega)
      obtain ⟨z, e0, _, hw⟩ := DataW.trod_int (P := Try.prog) Try.underlying3 t0
      injection e0 with e0
      exact ⟨z, by rw [h0, e0], hw⟩)
    refine ⟨some a, (List.range len).map Z, cap, by simp, fun h0 => ?_, by simp only [List.length_map, List.length_range]; have : maxLen = 9223372036854775807 := rfl; omega, fun z hz => ?_⟩
    · simp only [List.length_map, List.length_range] at h0
      obtain ⟨b, off, rfl, hlt⟩ := addr_of (hZ 0 h0).1 rfl
      refine ⟨b, off, rfl, hlt, fun i hi => ?_⟩
      simp only [List.length_map, List.length_range] at hi
      have hg : ((List.range len).map Z).getD i 0 = Z i := by simp [List.getD, hi]
      rw [hg]
      have := (hZ i hi).1
      rw [add_plain] at this
      exact this
    · obtain ⟨i, hi, rfl⟩ := List.mem_map.1 hz
      exact (hZ i (List.mem_range.1 hi)).2
set_option maxRecDepth 100000 in
theorem tlb_open {H : Type} {enc : TypeId × Value → H} {W : World} {r : Reach} {b0 base : Nat} {spare : Nat → Bool} {held : Bool} {v : Value} {d : DataW H} {p : List MemPlace}
    (hv : Value.okWide Try.prog W r b0 24 v) (h : DataW.Trod enc Try.prog W base spare held 24 v d p) :
    ∃ s a zs c, v = tlb s (.slice a (List.length zs) c) ∧ Seg .i64 W a zs ∧ zs.length ≤ 9223372036854775807 ∧ ∀ z ∈ zs, (Lit.int .i64 z).wf = true := by
  obtain ⟨cs, rfl, hsz⟩ := okWide_struct Try.underlying24 hv
  obtain ⟨v0, v1, rfl⟩ := array2 (hsz.trans cellsTL)
  obtain ⟨fuel, hf⟩ := h
  obtain ⟨xs, n, _, hx, _, hl, hfs⟩ := DataW.trod_struct Try.underlying24 hf
  obtain ⟨y0, y1, rfl⟩ := list2 hl
  have g0 := hfs 0 _ rfl
  have g1 := hfs 1 _ rfl
  simp only [Value.cells] at g0 g1
  obtain ⟨s, e0, rfl, w0⟩ := DataW.trod_int Try.underlying3 g0
  obtain ⟨a, zs, c, e1, hs, h1, h2⟩ := ints_open g1
  simp [cells3] at e0
  simp [cellsIS] at e1
  subst e0 e1
  exact ⟨s, a, zs, c, rfl, hs, h1, h2⟩
end Go.Proofs.Ytpecihkkbfjahaa
