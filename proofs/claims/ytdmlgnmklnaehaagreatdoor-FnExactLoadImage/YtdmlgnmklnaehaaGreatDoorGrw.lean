
/-
  What the laws' helpers on lists of rows of bytes do: their measure, their copies, whether two read alike, the marks that are laid and looked up. Conditions: rows and bytes are at most 1048576 together.
-/
import Derived.Test.YtdmlgnmklnaehaaGreatDoorBas
import Derived.Test.YtdmlgnmklnaehaaGreatDoorProg
import Derived.Test.YtdmlgnmklnaehaaGreatDoorGnm
namespace Go.Proofs.YtdmlgnmklnaehaaGreatDoor
open Go.ChangeShapes Go.WideShapes Go.ChangeAt Go.RowKit Go.Deep
set_option linter.unusedVariables false

set_option maxHeartbeats 1000000 in
theorem sz_rows (a : Option Addr) (cap n L : Nat) (D : Nat → List Int) (w : World) (hs : BSeg w a n D) (hn : n ≤ 9223372036854775807) (hD : ∀ i, i < n → (D i).length ≤ 9223372036854775807) (hL : L ≤ 1048576) :
    Calls Tryz.prog 129 #[.slice a n cap, .int .i64 (L : Int)] w fun e w' => (∃ r : Int, e = .returned (.int .i64 r) ∧ (r < 0 ∨ (0 ≤ r ∧ n ≤ L ∧ btot D n ≤ L))) ∧ w' = w := by
  have HS : Hid _ := And.intro hs hD
  clear hs hD
  by_cases h : n ≤ L
  rotate_left
  · have hw : IntKind.i64.wrap ((L : Int) - (n : Int)) = (L : Int) - (n : Int) := by rw [IntKind.wrap_i64]; omega
    have h0 : (L : Int) - (n : Int) < 0 := by omega
    go_enter Tryz.func129, Tryz.ntmps129
    go_wp2
    go_ret
    exact ⟨⟨_, rfl, .inl (by omega)⟩, rfl⟩
  obtain ⟨d, rfl⟩ : ∃ d, L = n + d := ⟨L - n, by omega⟩
  have hw : IntKind.i64.wrap (((n + d : Nat) : Int) - (n : Int)) = (d : Int) := by rw [show ((n + d : Nat) : Int) - (n : Int) = (d : Int) by omega, IntKind.wrap_i64]; omega
  have h0 : ¬ ((d : Int) < 0) := by omega
  go_enter Tryz.func129, Tryz.ntmps129
  go_wp2
  go_loopw [1, 5] (fun t i wr => ∃ k e : Nat, k ≤ n ∧ e ≤ d ∧ i = .int .i64 k ∧ t = .int .i64 (e : Int) ∧ wr = w ∧ Hid (e + btot D k = d)) (fun _ i _ => n - (intOf i).toNat)
  case atStart => exact ⟨0, d, by omega, Nat.le_refl _, rfl, congrArg _ (by omega), rfl, rfl⟩
  case round =>
    obtain ⟨k, e, hk, hed, rfl, rfl, rfl, HE⟩ := hrel
    clear hw h0
    by_cases hlt : k < n
    · have hlt' : (k : Int) < (n : Int) := by omega
      obtain ⟨b1, o1, a1, c1, rfl, hbl1, e1, s1⟩ := BSeg.at (w := wr) HS.out.1 k hlt
      have HC : Hid _ := sz_bytes a1 c1 (D k).length e wr (HS.out.2 k hlt) (by omega)
      have HT : Hid (btot D (k + 1) = btot D k + (D k).length) := rfl
      generalize (D k).length = len at e1 HC HT
      clear hbl1 s1
      go_wp2_with fail
      refine Calls.mono HC.out ?_
      rintro u w2 ⟨⟨r, rfl, hr⟩, rfl⟩
      rcases hr with hr | ⟨hr, hle⟩
      · go_wp2
        go_ret
        exact ⟨⟨_, rfl, .inl (by omega)⟩, by first | rfl | trivial⟩
      · have hr0 : ¬ (r < 0) := by omega
        have HR : Hid (r = ((e - len : Nat) : Int)) := hr
        have HG : Hid (e - len + btot D (k + 1) = d) := by have h1 := HE.out; have h2 := HT.out; show _ = _; omega
        clear hr HE HT
        go_wp2
        go_roundw
        case rel => exact ⟨k + 1, e - len, by omega, by omega, by go_num, by rw [HR.out], trivial, HG⟩
        case measure => simp [intOf]; omega
    · obtain rfl : k = n := by omega
      go_wp2
      go_ret
      have := HE.out
      exact ⟨⟨_, rfl, .inr ⟨by omega, by omega, by omega⟩⟩, rfl⟩
theorem Bsb.made (w : World) (n : Nat) (T : TypeId) (D : Nat → List Int) : Bsb (w.alloc (.cells (madeCells #[.slice none 0 0] n) T)) w.heap.size (w.heap.size + 1) w.heap.size n 0 D := by
  refine ⟨by omega, by simp, Nat.le_refl _, fun j => by simp, fun i hi => ⟨_, (World.rowIs_made w (.slice none 0 0) n T).cell hi⟩, fun _ => none, fun _ => 0, fun _ => 0, ⟨fun i hi => absurd hi (by omega), fun i hi => absurd hi (by omega), fun i hi => absurd hi (by omega), fun i hi => absurd hi (by omega), fun i j hi => absurd hi (by omega)⟩⟩
set_option maxHeartbeats 1000000 in
theorem to_rows (a : Option Addr) (cap n : Nat) (D : Nat → List Int) (w : World) (hs : BSeg w a n D) (hn : n ≤ 1048576) (ht : btot D n ≤ 1048576) :
    Calls Tryz.prog 140 #[.slice a n cap] w fun e w' => e = .returned (.slice (some ⟨w.heap.size, 0, none⟩) n n) ∧ Below w.heap.size w w' ∧ BRows w' w.heap.size w'.heap.size (some ⟨w.heap.size, 0, none⟩) n D := by
  have hmk := run_make_rows n hn
  have HS : Hid _ := And.intro hs ht
  clear hs ht
  go_enter Tryz.func140, Tryz.ntmps140
  go_wp2
  go_loopw [4] (fun i wr => ∃ k : Nat, k ≤ n ∧ i = .int .i64 k ∧ Hid (Below w.heap.size w wr ∧ ∃ m, Bsb wr w.heap.size m w.heap.size n k D)) (fun i _ => n - (intOf i).toNat)
  case atStart => exact ⟨0, by omega, rfl, (Below.refl _ _).alloc (Nat.le_refl _) _, _, Bsb.made w n 82 D⟩
  case round =>
    obtain ⟨k, hk, rfl, HB⟩ := hrel
    by_cases hlt : k < n
    · have hlt' : (k : Int) < (n : Int) := by omega
      obtain ⟨b1, o1, a1, cc, rfl, hbl1, e1, s1⟩ := BSeg.at (w := w) HS.out.1 k hlt
      obtain ⟨hb, m, hr⟩ := HB.out
      replace e1 := (hb.cell (p := ⟨b1, o1 + k, none⟩) hbl1).trans e1
      have HC : Hid (Calls Tryz.prog 183 #[.slice a1 (D k).length cc] wr fun e w' => e = .returned (.slice (some ⟨wr.heap.size, 0, none⟩) (D k).length (D k).length) ∧ Below wr.heap.size wr w' ∧ Own .u8 w' wr.heap.size (D k)) :=
        to_bytes a1 cc (D k).length (D k) wr (s1.below hb) rfl (Nat.le_trans (btot_row D hlt) HS.out.2)
      obtain ⟨len, HL⟩ : ∃ len, Hid ((D k).length = len) := ⟨_, rfl⟩
      have hm := hr.mle
      rw [HL.out] at e1 HC
      clear hbl1 s1 HB
      go_wp2_with fail
      refine HC.out.mono ?_
      rintro u w2 ⟨rfl, hbb, hpb⟩
      have hr2 := hr.below hbb
      have hb2 := hb.trans (hbb.mono hb.size)
      obtain ⟨u1, hu1⟩ := hr2.room k hlt
      have hf := hr2.free
      have hsz := hbb.size
      have hr3 := hr2.put hlt (some ⟨wr.heap.size, 0, none⟩) len wr.heap.size w2.heap.size (fun _ => hm) (ON.own hpb hb.size hpb.lt) (by rw [HL.out]; exact Nat.le_refl _) (by omega) (Nat.le_refl _)
      rw [HL.out] at hr3
      have HB3 : Hid (Below w.heap.size w (w2.setCell ⟨w.heap.size, k, none⟩ (.slice (some ⟨wr.heap.size, 0, none⟩) len len)) ∧ ∃ m, Bsb (w2.setCell ⟨w.heap.size, k, none⟩ (.slice (some ⟨wr.heap.size, 0, none⟩) len len)) w.heap.size m w.heap.size n (k + 1) D) :=
        ⟨hb2.setCell (p := ⟨w.heap.size, k, none⟩) (Nat.le_refl _) _, _, hr3⟩
      clear hbb hpb hr2 hb2 hr3 hr hb e1 hm hsz HC
      go_wp2
      go_roundw
      case rel => exact ⟨k + 1, by omega, by go_num, HB3⟩
      case measure => simp [intOf]; omega
    · obtain rfl : k = n := by omega
      go_wp2
      go_ret
      obtain ⟨hb, m, hr⟩ := HB.out
      exact ⟨rfl, hb, hr.rows'.wide (Nat.le_refl _) hr.mle⟩
set_option maxHeartbeats 2000000 in
theorem eq_rows (a b : Option Addr) (ca cb n : Nat) (D : Nat → List Int) (w : World) (ha : BSeg w a n D) (hb : BSeg w b n D) (hn : n ≤ 1048576) (ht : btot D n ≤ 1048576) :
    Calls Tryz.prog 10 #[.slice a n ca, .slice b n cb] w fun e w' => e = .returned (.bool true) ∧ Below w.heap.size w w' := by
  have HA : Hid _ := And.intro ha hb
  have HT : Hid _ := ht
  clear ha hb ht
  go_enter Tryz.func10, Tryz.ntmps10
  go_wp2
  go_loopw [5] (fun i wr => ∃ k : Nat, k ≤ n ∧ i = .int .i64 k ∧ Hid (Below w.heap.size w wr)) (fun i _ => n - (intOf i).toNat)
  case atStart => exact ⟨0, by omega, rfl, Below.refl _ _⟩
  case round =>
    obtain ⟨k, hk, rfl, HB⟩ := hrel
    by_cases hlt : k < n
    · have hlt' : (k : Int) < (n : Int) := by omega
      obtain ⟨b1, o1, a1, c1, rfl, hbl1, e1, s1⟩ := BSeg.at (w := w) HA.out.1 k hlt
      obtain ⟨b2, o2, a2, c2, rfl, hbl2, e2, s2⟩ := BSeg.at (w := w) HA.out.2 k hlt
      have hb := HB.out
      replace e1 := (hb.cell (p := ⟨b1, o1 + k, none⟩) hbl1).trans e1
      replace e2 := (hb.cell (p := ⟨b2, o2 + k, none⟩) hbl2).trans e2
      have HC : Hid (∀ X, Below w.heap.size w X → Calls Tryz.prog 41 #[.slice a1 (D k).length c1, .slice a2 (D k).length c2] X fun e w' => e = .returned (.bool true) ∧ Below X.heap.size X w') := fun X hX =>
        eq_bytes a1 a2 c1 c2 (D k).length (D k) X (s1.below hX) (s2.below hX) rfl (Nat.le_trans (btot_row D hlt) HT.out)
      generalize (D k).length = len at e1 e2 HC
      clear hbl1 hbl2 HB s1 s2
      go_wp2
      go_region_held3 (fun w' => w'.cell? ⟨b1, o1 + k, none⟩ = some (.slice a1 len c1) ∧ w'.cell? ⟨b2, o2 + k, none⟩ = some (.slice a2 len c2)) (first | exact ⟨e1, e2⟩) (first | (go_at_call 41; refine Calls.mono (HC.out _ (by first | exact hb | exact hb.drew)) ?_; rintro u w9 ⟨rfl, hbb⟩; (first | replace hb := hb.trans (hbb.mono hb.size) | replace hb := hb.drew.trans (hbb.mono hb.drew.size)); replace e1 := kept_cell hbb e1; replace e2 := kept_cell hbb e2; clear hbb))
      go_wp2
      go_roundw
      case rel => exact ⟨k + 1, by omega, by go_num, hb⟩
      case measure => simp [intOf]; omega
    · go_wp2
      go_ret
      exact ⟨rfl, HB.out⟩
theorem bmarkD_len (k : Nat) (D : Nat → List Int) (i : Nat) : (bmarkD k D i).length = (D i).length := by simp [bmarkD, marksM_len]
set_option maxHeartbeats 1000000 in
theorem mark_rows (lo hi cap k n : Nat) (a : Option Addr) (D : Nat → List Int) (w : World) (ho : BRows w lo hi a n D) (hn : n ≤ 1048576) (ht : btot D n ≤ 1048576) (hk1 : k ≤ 10000000) :
    Calls Tryz.prog 15 #[.slice a n cap, .int .i64 (k : Int)] w fun e w' => e = .returned (.int .i64 ((k + btot D n : Nat) : Int)) ∧ Betw lo hi w w' ∧ w'.heap.size = w.heap.size ∧ BRows w' lo hi a n (bmarkD k D) := by
  by_cases h0 : n = 0
  · subst h0
    go_enter Tryz.func15, Tryz.ntmps15
    go_wp2
    refine wp_loop_rounds 1 ?_
    rw [rounds_succ]
    go_wp2
    go_ret
    exact ⟨ret_int (by simp [btot]), Betw.refl _ _ _, rfl, ho.congr (fun i hi => absurd hi (by omega))⟩
  obtain ⟨B, off, A, C, R, h1, hra⟩ := ho
  obtain ⟨rfl, hB1, hB2, hBw⟩ := h1 (by omega)
  have HA : Hid _ := hra
  have HT : Hid _ := ht
  clear hra ht h1
  go_enter Tryz.func15, Tryz.ntmps15
  go_wp2
  go_loopw [1, 5] (fun t i wr => ∃ m K : Nat, m ≤ n ∧ i = .int .i64 m ∧ t = .int .i64 (K : Int) ∧ Hid (K = k + btot D m ∧ Betw lo hi w wr ∧ wr.heap.size = w.heap.size ∧ BRA wr lo hi B off A C R n (fun i => if i < m then bmarkD k D i else D i))) (fun _ i _ => n - (intOf i).toNat)
  case atStart => exact ⟨0, k, by omega, rfl, rfl, rfl, Betw.refl _ _ _, rfl, HA.out.congr (fun i hi => by simp)⟩
  case round =>
    obtain ⟨m, K, hm, rfl, rfl, HR⟩ := hrel
    by_cases hmn : m < n
    rotate_left
    · obtain rfl : m = n := by omega
      go_wp2
      go_ret
      obtain ⟨rfl, hb, hsz, hp⟩ := HR.out
      exact ⟨rfl, hb, hsz, B, off, A, C, R, fun _ => ⟨rfl, hB1, hB2, by rw [hsz]; exact hBw⟩, hp.congr (fun i hi => by simp [hi])⟩
    have hmn' : (m : Int) < (n : Int) := by omega
    obtain ⟨hK, hb, hsz, hp⟩ := HR.out
    have hrow := hp.row m hmn
    have hcell := hp.cell m hmn
    simp only [Nat.lt_irrefl, if_false] at hrow hcell
    have htm := btot_mono D (show m ≤ n by omega)
    have hlen := btot_row D hmn
    have hT := HT.out
    have HC : Hid _ := mark_bytes lo hi (R m) (C m) K (D m).length (A m) (D m) wr hrow rfl (by omega) (by omega)
    have HX : Hid _ := hrow
    obtain ⟨len, Hlen⟩ : ∃ len, Hid ((D m).length = len) := ⟨_, rfl⟩
    rw [Hlen.out] at hcell HC
    clear hb hsz hp hrow htm hlen hT hK
    go_wp2_with fail
    refine Calls.mono HC.out ?_
    rintro u w2 ⟨rfl, hb2, hs2, how, he⟩
    have HR2 : Hid (K + len = k + btot D (m + 1) ∧ Betw lo hi w w2 ∧ w2.heap.size = w.heap.size ∧ BRA w2 lo hi B off A C R n (fun i => if i < m + 1 then bmarkD k D i else D i)) := by
      obtain ⟨hK, hb, hsz, hp⟩ := HR.out
      have hL := Hlen.out
      by_cases e0 : len = 0
      · obtain rfl := he e0
        refine ⟨by simp only [btot]; omega, hb, hsz, hp.congr (fun i hi => ?_)⟩
        by_cases e : i = m
        · subst e
          have hnil : D i = [] := List.eq_nil_of_length_eq_zero (by omega)
          simp [bmarkD, hnil, marksM]
        · by_cases e1 : i < m
          · rw [if_pos e1, if_pos (by omega)]
          · rw [if_neg e1, if_neg (by omega)]
      · obtain ⟨_, _, g1, g2, _⟩ := HX.out (by omega)
        refine ⟨by simp only [btot]; omega, hb.trans (hb2.wide g1 g2), hs2.trans hsz, ?_⟩
        have h3 := hp.put m hmn (by rw [hsz]; exact hBw) (marksM 256 K len) (by rw [marksM_len]; simp [hL]) hb2 how (by simp; omega)
        refine h3.congr (fun i hi => ?_)
        by_cases e : i = m
        · subst e
          rw [if_pos rfl, if_pos (by omega)]
          simp only [bmarkD]
          rw [hK, hL]
        · rw [if_neg e]
          by_cases e1 : i < m
          · rw [if_pos e1, if_pos (by omega)]
          · rw [if_neg e1, if_neg (by omega)]
    clear hb2 hs2 how he HR HC hcell HX
    go_wp2
    go_roundw
    case rel => exact ⟨m + 1, K + len, by omega, by go_num, rfl, HR2⟩
    case measure => simp [intOf]; omega
set_option maxHeartbeats 1000000 in
theorem held_rows (cap k n : Nat) (a : Option Addr) (D : Nat → List Int) (w : World) (hs : BSeg w a n (bmarkD k D)) (hn : n ≤ 1048576) (ht : btot D n ≤ 1048576) (hk1 : k ≤ 10000000) :
    Calls Tryz.prog 16 #[.slice a n cap, .int .i64 (k : Int)] w fun e w' => e = .returned (.int .i64 ((k + btot D n : Nat) : Int)) ∧ Below w.heap.size w w' := by
  have HS : Hid _ := hs
  have HT : Hid _ := ht
  clear hs ht
  go_enter Tryz.func16, Tryz.ntmps16
  go_wp2
  go_loopw [1, 5] (fun t i wr => ∃ m K : Nat, m ≤ n ∧ i = .int .i64 m ∧ t = .int .i64 (K : Int) ∧ Hid (K = k + btot D m ∧ Below w.heap.size w wr)) (fun _ i _ => n - (intOf i).toNat)
  case atStart => exact ⟨0, k, by omega, rfl, rfl, rfl, Below.refl _ _⟩
  case round =>
    obtain ⟨m, K, hm, rfl, rfl, HK⟩ := hrel
    by_cases hmn : m < n
    rotate_left
    · obtain rfl : m = n := by omega
      go_wp2
      go_ret
      exact ⟨ret_int (by rw [HK.out.1]), HK.out.2⟩
    have hmn' : (m : Int) < (n : Int) := by omega
    obtain ⟨b1, o1, a1, c1, rfl, hbl1, e1, s1⟩ := BSeg.at (w := wr) (BSeg.below HS.out HK.out.2) m hmn
    rw [bmarkD_len] at e1
    have htm := btot_mono D (show m ≤ n by omega)
    have hlen := btot_row D hmn
    have hT := HT.out
    have hKK := HK.out.1
    have hbb := HK.out.2
    have HC : Hid _ := held_bytes a1 c1 (D m).length K wr (by rw [hKK]; exact s1) (by omega) (by omega)
    have HK2 : Hid (K + (D m).length = k + btot D (m + 1)) := by show _ = _; simp only [btot]; omega
    generalize (D m).length = len at e1 HC HK2
    clear hbl1 s1 htm hlen hT hKK HK
    have HBB : Hid _ := hbb
    clear hbb
    go_wp2_with fail
    refine Calls.mono HC.out ?_
    rintro u w2 ⟨rfl, hb2⟩
    have HB3 : Hid _ := HBB.out.trans (hb2.mono HBB.out.size)
    clear hb2 HBB
    go_wp2
    go_roundw
    case rel => exact ⟨m + 1, K + len, by omega, by go_num, rfl, HK2.out, HB3.out⟩
    case measure => simp [intOf]; omega
end Go.Proofs.YtdmlgnmklnaehaaGreatDoor
