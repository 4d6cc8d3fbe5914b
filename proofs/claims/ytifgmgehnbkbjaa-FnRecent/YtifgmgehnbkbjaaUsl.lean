/-
  Uses of a cache in memory, and what the laws' helpers on them do: a copy, the measure, whether two lists are alike, the marks; how a list that came in is read. Conditions: the lists are at most 1048576 long.
-/
import Derived.Test.YtifgmgehnbkbjaaRows
import Derived.Test.YtifgmgehnbkbjaaWto
import Derived.Test.YtifgmgehnbkbjaaWmk
import Derived.Test.YtifgmgehnbkbjaaWsz
import Derived.Test.YtifgmgehnbkbjaaWop
namespace Go.Proofs.Ytifgmgehnbkbjaa
open Go.ChangeShapes Go.WideShapes Go.ChangeAt Go.RowKit Go.Joins Go.Deep
set_option linter.unusedVariables false

theorem infoU : (Try.prog.info? 32).map (fun i => (i.zero, i.size, i.bytes)) = some (some (.agg #[.int .i64 0, .bool false]), 2, 16) := by kernel_rfl
theorem eq_use (z : Int) (d : Bool) (w : World) : Calls Try.prog 79 #[.agg #[.int .i64 z, .bool d], .agg #[.int .i64 z, .bool d]] w fun e w' => e = .returned (.bool true) ∧ Below w.heap.size w w' := by
  cases d <;>
  · go_enter Try.func79, Try.ntmps79
    go_wp2
    go_ret
    exact ⟨rfl, ((Below.refl _ _).alloc (Nat.le_refl _) _).alloc (by simp) _⟩
set_option maxHeartbeats 2000000 in
theorem eq_uses (a b : Option Addr) (ca cb : Nat) (ws : List Wy) (w : World) (ha : WSeg w a ws) (hb : WSeg w b ws) (hn : ws.length ≤ 1048576) :
    Calls Try.prog 47 #[.slice a ws.length ca, .slice b ws.length cb] w fun e w' => e = .returned (.bool true) ∧ Below w.heap.size w w' := by
  obtain ⟨n, Hn⟩ : ∃ n, Hid (n = ws.length) := ⟨_, rfl⟩
  have hn' : n ≤ 1048576 := by rw [Hn.out]; exact hn
  have HA : Hid _ := And.intro ha hb
  rw [← Hn.out]
  clear hn ha hb
  go_enter Try.func47, Try.ntmps47
  go_wp2
  go_loopw [5] (fun i wr => ∃ k : Nat, k ≤ n ∧ i = .int .i64 k ∧ Hid (Below w.heap.size w wr)) (fun i _ => n - (intOf i).toNat)
  case atStart => exact ⟨0, by omega, rfl, Below.refl _ _⟩
  case round =>
    obtain ⟨k, hk, rfl, HB⟩ := hrel
    by_cases hlt : k < n
    · have hlt' : (k : Int) < (n : Int) := by omega
      have hl : k < ws.length := by rw [← Hn.out]; exact hlt
      obtain ⟨b1, o1, rfl, hbl1, c1, d1⟩ := WSeg.at (w := w) HA.out.1 k hl
      obtain ⟨b2, o2, rfl, hbl2, c2, d2⟩ := WSeg.at (w := w) HA.out.2 k hl
      have hb := HB.out
      replace c1 := (hb.cell (p := ⟨b1, o1 + k * 2, none⟩) hbl1).trans c1
      replace d1 := (hb.cell (p := ⟨b1, o1 + k * 2 + 1, none⟩) hbl1).trans d1
      replace c2 := (hb.cell (p := ⟨b2, o2 + k * 2, none⟩) hbl2).trans c2
      replace d2 := (hb.cell (p := ⟨b2, o2 + k * 2 + 1, none⟩) hbl2).trans d2
      generalize ws.getD k wd = p at c1 d1 c2 d2
      obtain ⟨z, d⟩ := p
      simp only at c1 d1 c2 d2
      clear hl hbl1 hbl2 HB
      go_wp2
      go_region_held3 (fun w' => w'.cell? ⟨b1, o1 + k * 2, none⟩ = some (.int .i64 z) ∧ w'.cell? ⟨b1, o1 + k * 2 + 1, none⟩ = some (.bool d) ∧ w'.cell? ⟨b2, o2 + k * 2, none⟩ = some (.int .i64 z) ∧ w'.cell? ⟨b2, o2 + k * 2 + 1, none⟩ = some (.bool d)) (first | exact ⟨c1, d1, c2, d2⟩) (first | (go_at_call 79; refine Calls.mono (eq_use z d _) ?_; rintro u w9 ⟨rfl, hbb⟩; (first | replace hb := hb.trans (hbb.mono hb.size) | replace hb := hb.drew.trans (hbb.mono hb.drew.size)); replace c1 := kept_cell hbb c1; replace d1 := kept_cell hbb d1; replace c2 := kept_cell hbb c2; replace d2 := kept_cell hbb d2; clear hbb))
      go_wp2
      go_roundw
      case rel => exact ⟨k + 1, by omega, by go_num, hb⟩
      case measure => simp [intOf]; omega
    · go_wp2
      go_ret
      exact ⟨rfl, HB.out⟩
theorem run_make_uses (n : Nat) (hn : n ≤ 1048576) (w : World) : (Instr.makeSlice 26 (.int .i64 (n : Int)) (.int .i64 (n : Int))).run Try.prog w = .ok (.slice (some ⟨w.heap.size, 0, none⟩) n n) (w.alloc (.cells (madeCells #[.int .i64 0, .bool false] (n * 2)) 32)) := by
  obtain ⟨i, hi, hzz⟩ := Option.map_eq_some_iff.1 infoU
  simp only [Prod.mk.injEq] at hzz
  obtain ⟨hz, hs, hb⟩ := hzz
  have := run_make (P := Try.prog) w 26 32 i _ Try.underlying26 hi hz .i64 .i64 n n (by omega) (Int.le_refl _) (by rw [hb]; omega) (by omega)
  rw [hs, Int.toNat_natCast] at this
  exact this
theorem to_use (z : Int) (d : Bool) (w : World) : Calls Try.prog 77 #[.agg #[.int .i64 z, .bool d]] w fun x w' => x = .returned (.agg #[.int .i64 z, .bool d]) ∧ Below w.heap.size w w' := by
  go_enter Try.func77, Try.ntmps77
  go_wp2
  exact bodyPost_ret (v := .agg #[.int .i64 z, .bool d]) (by simp [results, Try.results77, go_sem]) rfl ⟨rfl, (((Below.refl _ _).alloc (Nat.le_refl _) _).alloc (by simp) _).alloc (by simp; omega) _⟩
set_option maxHeartbeats 1000000 in
theorem to_uses (a : Option Addr) (cap n : Nat) (ws : List Wy) (w : World) (hs : WSeg w a ws) (hl : ws.length = n) (hn : n ≤ 1048576) :
    Calls Try.prog 45 #[.slice a n cap] w fun e w' => e = .returned (.slice (some ⟨w.heap.size, 0, none⟩) n n) ∧ Below w.heap.size w w' ∧ PairBlk w' w.heap.size 0 n n ws := by
  have hmk := run_make_uses n hn
  have HS : Hid _ := And.intro hs hl
  clear hs hl
  go_enter Try.func45, Try.ntmps45
  go_wp2
  go_loopw [4] (fun i wr => ∃ k : Nat, k ≤ n ∧ i = .int .i64 k ∧ Hid (Below w.heap.size w wr ∧ PairBlk wr w.heap.size 0 n k ws)) (fun i _ => n - (intOf i).toNat)
  case atStart => exact ⟨0, by omega, rfl, (Below.refl _ _).alloc (Nat.le_refl _) _, PairBlk.made w n 32 ws⟩
  case round =>
    obtain ⟨k, hk, rfl, HB⟩ := hrel
    by_cases hlt : k < n
    · have hlt' : (k : Int) < (n : Int) := by omega
      obtain ⟨b1, o1, rfl, hbl1, c1, d1⟩ := WSeg.at (w := w) HS.out.1 k (by have := HS.out.2; omega)
      have hb := HB.out.1
      replace c1 := (hb.cell (p := ⟨b1, o1 + k * 2, none⟩) hbl1).trans c1
      replace d1 := (hb.cell (p := ⟨b1, o1 + k * 2 + 1, none⟩) hbl1).trans d1
      obtain ⟨p, HP⟩ : ∃ p, Hid (ws.getD k wd = p) := ⟨_, rfl⟩
      rw [HP.out] at c1 d1
      obtain ⟨z, d⟩ := p
      simp only at c1 d1
      clear hbl1
      go_wp2_with fail
      refine (to_use z d _).mono ?_
      rintro u w2 ⟨rfl, hbb⟩
      have hp2 := HB.out.2.below hbb
      have hb2 := hb.trans (hbb.mono hb.size)
      obtain ⟨⟨u1, hu1⟩, ⟨u2, hu2⟩⟩ := hp2.room k hlt
      have hf := hp2.free
      have HP3 := hp2.put hlt z d HP.out
      have HB3 : Hid (Below w.heap.size w ((w2.setCell ⟨w.heap.size, 0 + k * 2, none⟩ (.int .i64 z)).setCell ⟨w.heap.size, 0 + k * 2 + 1, none⟩ (.bool d)) ∧ PairBlk ((w2.setCell ⟨w.heap.size, 0 + k * 2, none⟩ (.int .i64 z)).setCell ⟨w.heap.size, 0 + k * 2 + 1, none⟩ (.bool d)) w.heap.size 0 n (k + 1) ws) :=
        ⟨(hb2.setCell (p := ⟨w.heap.size, 0 + k * 2, none⟩) (Nat.le_refl _) _).setCell (p := ⟨w.heap.size, 0 + k * 2 + 1, none⟩) (Nat.le_refl _) _, HP3⟩
      rw [Nat.zero_add] at hu1 hu2 HB3
      have hu3 : (w2.setCell ⟨w.heap.size, k * 2, none⟩ (.int .i64 z)).cell? ⟨w.heap.size, k * 2 + 1, none⟩ = some u2 := by rw [World.cell?_setCell_other _ _ _ _ (by simp)]; exact hu2
      clear hbb hp2 hb2 HP3 HB hb c1 d1
      go_wp2
      go_roundw
      case rel => exact ⟨k + 1, by omega, by go_num, HB3⟩
      case measure => simp [intOf]; omega
    · obtain rfl : k = n := by omega
      go_wp2
      go_ret
      exact ⟨rfl, HB.out.1, HB.out.2⟩
set_option maxHeartbeats 1000000 in
theorem mark_uses (lo hi R cap k n : Nat) (a : Option Addr) (ws : List Wy) (w : World) (ho : OW w lo hi a ws R) (hl : ws.length = n) (hn : n ≤ 1048576) (hk1 : k ≤ 1000000000) :
    Calls Try.prog 48 #[.slice a n cap, .int .i64 (k : Int)] w fun e w' => e = .returned (.int .i64 ((k + 2 * n : Nat) : Int)) ∧ Betw R (R + 1) w w' ∧ w'.heap.size = w.heap.size ∧ OW w' lo hi a (markWs k n) R ∧ (n = 0 → w' = w) := by
  by_cases h0 : n = 0
  · subst h0
    go_enter Try.func48, Try.ntmps48
    go_wp2
    refine wp_loop_rounds 1 ?_
    rw [rounds_succ]
    go_wp2
    go_ret
    exact ⟨ret_int (by simp), Betw.refl _ _ _, rfl, OW.nil _ _ _ _ _, fun _ => rfl⟩
  obtain ⟨off, rfl, h1, h2, hlt, hc, hf⟩ := ho (by omega)
  have HB : Hid (PairBlk w R off n 0 (markWs k n)) := ⟨hlt, hf, fun i hi => ⟨⟨_, (hc i (by omega)).1⟩, ⟨_, (hc i (by omega)).2⟩⟩, fun i hi => absurd hi (by omega)⟩
  clear ho hc hf hl
  go_enter Try.func48, Try.ntmps48
  go_wp2
  go_loopw [1, 5] (fun t i wr => ∃ m : Nat, m ≤ n ∧ i = .int .i64 m ∧ t = .int .i64 ((k + 2 * m : Nat) : Int) ∧ Hid (Betw R (R + 1) w wr ∧ wr.heap.size = w.heap.size ∧ PairBlk wr R off n m (markWs k n))) (fun _ i _ => n - (intOf i).toNat)
  case atStart => exact ⟨0, by omega, rfl, by go_num, Betw.refl _ _ _, rfl, HB.out⟩
  case round =>
    obtain ⟨m, hm, rfl, rfl, HR⟩ := hrel
    by_cases hmn : m < n
    rotate_left
    · obtain rfl : m = n := by omega
      go_wp2
      go_ret
      obtain ⟨hb, hsz, hp⟩ := HR.out
      exact ⟨rfl, hb, hsz, hp.ow (markWs_len _ _) _ _ h1 h2, fun e => absurd e h0⟩
    have hmn' : (m : Int) < (n : Int) := by omega
    obtain ⟨hb, hsz, hp⟩ := HR.out
    obtain ⟨⟨u1, hu1⟩, ⟨u2, hu2⟩⟩ := hp.room m hmn
    have hfz := hp.free
    have hp2 := hp.put hmn ((k + 2 * m : Nat) : Int) (decide ((k + 2 * m + 1) % 3 = 0)) (markWs_at k n m hmn)
    have HR2 : Hid (Betw R (R + 1) w ((wr.setCell ⟨R, off + m * 2, none⟩ (.int .i64 ((k + 2 * m : Nat) : Int))).setCell ⟨R, off + m * 2 + 1, none⟩ (.bool (decide ((k + 2 * m + 1) % 3 = 0)))) ∧ ((wr.setCell ⟨R, off + m * 2, none⟩ (.int .i64 ((k + 2 * m : Nat) : Int))).setCell ⟨R, off + m * 2 + 1, none⟩ (.bool (decide ((k + 2 * m + 1) % 3 = 0)))).heap.size = w.heap.size ∧ PairBlk ((wr.setCell ⟨R, off + m * 2, none⟩ (.int .i64 ((k + 2 * m : Nat) : Int))).setCell ⟨R, off + m * 2 + 1, none⟩ (.bool (decide ((k + 2 * m + 1) % 3 = 0)))) R off n (m + 1) (markWs k n)) :=
      ⟨(hb.setCell (p := ⟨R, off + m * 2, none⟩) (Nat.le_refl _) (Nat.lt_succ_self _) _).setCell (p := ⟨R, off + m * 2 + 1, none⟩) (Nat.le_refl _) (Nat.lt_succ_self _) _, by simpa using hsz, hp2⟩
    have hu3 : (wr.setCell ⟨R, off + m * 2, none⟩ (.int .i64 ((k + 2 * m : Nat) : Int))).cell? ⟨R, off + m * 2 + 1, none⟩ = some u2 := by rw [World.cell?_setCell_other _ _ _ _ (by simp)]; exact hu2
    have HM := rem3 (k + 2 * m + 1)
    obtain ⟨K, HK⟩ : ∃ K, Hid (K = k + 2 * m) := ⟨_, rfl⟩
    have hK : K ≤ 1003000000 := by rw [HK.out]; omega
    rw [← HK.out] at HR2 hu3 HM ⊢
    have HM2 : (((K : Nat) : Int) + 1) % 3 = (((K + 1 : Nat) : Int) % 3) := rfl
    generalize decide ((K + 1) % 3 = 0) = dm at HR2 HM
    clear hb hsz hp hp2 HR
    go_wp2
    go_roundw
    case rel => exact ⟨m + 1, by omega, by go_num, by rw [HK.out]; go_num, HR2⟩
    case measure => simp [intOf]; omega
theorem sz_uses (a : Option Addr) (cap n L : Nat) (w : World) (hn : n ≤ 9223372036854775807) (hL : L ≤ 1048576) :
    Calls Try.prog 44 #[.slice a n cap, .int .i64 (L : Int)] w fun e w' => (∃ r : Int, e = .returned (.int .i64 r) ∧ (r < 0 ∨ (r = ((L - n : Nat) : Int) ∧ n ≤ L))) ∧ w' = w := by
  by_cases h : n ≤ L
  · obtain ⟨d, rfl⟩ : ∃ d, L = n + d := ⟨L - n, by omega⟩
    have hw : IntKind.i64.wrap (((n + d : Nat) : Int) - (n : Int)) = (d : Int) := by rw [show ((n + d : Nat) : Int) - (n : Int) = (d : Int) by omega, IntKind.wrap_i64]; omega
    have h0 : ¬ ((d : Int) < 0) := by omega
    go_enter Try.func44, Try.ntmps44
    go_wp2
    go_ret
    exact ⟨⟨_, rfl, by omega⟩, rfl⟩
  · have hw : IntKind.i64.wrap ((L : Int) - (n : Int)) = (L : Int) - (n : Int) := by rw [IntKind.wrap_i64]; omega
    have h0 : (L : Int) - (n : Int) < 0 := by omega
    go_enter Try.func44, Try.ntmps44
    go_wp2
    go_ret
    exact ⟨⟨_, rfl, .inl (by omega)⟩, rfl⟩
theorem cellsUL : Try.prog.cellsOf 108 = 2 := by kernel_rfl
theorem uses_open {H : Type} {enc : TypeId × Value → H} {W : World} {base : Nat} {spare : Nat → Bool} {held : Bool} {fuel : Nat} {cs : List Value} {x : DataW H × List MemPlace}
    (h : DataW.trod enc Try.prog W base spare held fuel 65 cs = some x) : ∃ a ws c, cs = [.slice a (List.length ws) c] ∧ WSeg W a ws ∧ ws.length ≤ 9223372036854775807 ∧ ws.length ≤ c := by
  rcases open_slice_pairs (P := Try.prog) Try.underlying65 Try.underlying108 cellsUL rfl rfl cells3 cells4 h with ⟨rfl, _⟩ | ⟨a, len, cap, m, n, V0, V1, D0, D1, P0, P1, rfl, hb, hl, hm, hmm, _, hx⟩
  · exact ⟨none, [], 0, rfl, WSeg.nil _ _, by simp, by simp⟩
  · have hlm : len ≤ m := by rw [hmm]; split <;> omega
    obtain ⟨Z, hZ⟩ := choose_lt (α := Wy) (n := len) (p := fun i z => W.cell? (a.add (i * 2)) = some (.int .i64 z.1) ∧ W.cell? (a.add (i * 2 + 1)) = some (.bool z.2)) (fun i hi => by
      obtain ⟨h0, h1, t0, t1⟩ := hx i (by omega)
      obtain ⟨z, e0, _, _⟩ := DataW.trod_int (P := Try.prog) Try.underlying3 t0
      obtain ⟨d, e1, _⟩ := DataW.trod_bool (P := Try.prog) Try.underlying4 t1
      injection e0 with e0
      injection e1 with e1
      exact ⟨(z, d), by rw [h0, e0], by rw [h1, e1]⟩)
    refine ⟨some a, (List.range len).map Z, cap, by simp, fun h0 => ?_, by simp only [List.length_map, List.length_range]; have : maxLen = 9223372036854775807 := rfl; omega, by simp only [List.length_map, List.length_range]; exact hl⟩
    simp only [List.length_map, List.length_range] at h0
    obtain ⟨b, off, rfl, hlt⟩ := addr_of (hZ 0 h0).1 (by omega)
    refine ⟨b, off, rfl, hlt, fun i hi => ?_⟩
    simp only [List.length_map, List.length_range] at hi
    have hg : ((List.range len).map Z).getD i wd = Z i := by simp [List.getD, hi]
    rw [hg]
    have := hZ i hi
    rw [add_plain, add_plain, ← Nat.add_assoc] at this
    exact this
set_option maxRecDepth 100000 in
theorem uses_arg {H : Type} {enc : TypeId × Value → H} {W : World} {r : Reach} {b0 base : Nat} {spare : Nat → Bool} {held : Bool} {v : Value} {d : DataW H} {p : List MemPlace}
    (hv : Value.okWide Try.prog W r b0 65 v) (h : DataW.Trod enc Try.prog W base spare held 65 v d p) :
    ∃ a ws c, v = .slice a (List.length ws) c ∧ WSeg W a ws ∧ ws.length ≤ 9223372036854775807 := by
  obtain ⟨a, len, cap, rfl⟩ := okWide_slice Try.underlying65 hv
  obtain ⟨fuel, hf⟩ := h
  obtain ⟨a', ws, c, e, hs, h1, _⟩ := uses_open hf
  simp [Value.cells] at e
  obtain ⟨rfl, rfl, rfl⟩ := e
  exact ⟨_, ws, _, rfl, hs, h1⟩
end Go.Proofs.Ytifgmgehnbkbjaa
