
/-
  A new guest, by the specification: registers and rows of noughts; and where the windows are not right, by both: none. Conditions: lengths are lengths of slices.
-/
import Derived.Test.YtanffdedignegaaBas
import Derived.Test.YtanffdedignegaaProg
import Derived.Test.YtanffdedignegaaGni
namespace Go.Proofs.Ytanffdedignegaa
open Go.ChangeShapes Go.WideShapes Go.ChangeAt Go.RowKit Go.Deep
set_option linter.unusedVariables false

theorem infoU' : ∃ i, Try.prog.info? 26 = some i ∧ i.zero = some (.int .u32 0) ∧ i.size = 1 ∧ i.bytes = 4 := by
  obtain ⟨i, hi, h⟩ := Option.map_eq_some_iff.1 infoU
  simp only [Prod.mk.injEq] at h
  exact ⟨i, hi, h.1, h.2.1, h.2.2⟩
theorem infoB' : ∃ i, Try.prog.info? 5 = some i ∧ i.zero = some (.int .u8 0) ∧ i.size = 1 ∧ i.bytes = 1 := by
  obtain ⟨i, hi, h⟩ := Option.map_eq_some_iff.1 infoB
  simp only [Prod.mk.injEq] at h
  exact ⟨i, hi, h.1, h.2.1, h.2.2⟩
theorem one_num (k : IntKind) (r : Int) : ∀ u ∈ [Value.int k r], u.oneCell' = true := by
  intro u hu
  simp only [List.mem_singleton] at hu
  subst hu
  rfl
theorem rep_snoc (k : IntKind) (n : Nat) : (List.replicate n (0 : Int)).map (Value.int k) ++ [Value.int k 0] = (List.replicate (n + 1) (0 : Int)).map (Value.int k) := by
  rw [List.replicate_succ', List.map_append]; rfl
/-- Registers that are laid one behind the other. -/
structure RL (w wr : World) (B : Nat) (pc : Int) (k : Nat) (v : Value) : Prop where
  bel : Below w.heap.size w wr
  b0 : Bk wr w.heap.size #[.slice none 0 0, .int .u32 0, .slice none 0 0]
  low : w.heap.size < B
  var : Bk wr B #[v, .int .u32 pc, .slice none 0 0]
  own : wr.ownsRow (B + 1) 26 1 v k ((List.replicate k (0 : Int)).map (Value.int .u32))
  top : B + 1 ≤ wr.heap.size
theorem RL.below {w wr w' : World} {B : Nat} {pc : Int} {k : Nat} {v : Value} (h : RL w wr B pc k v) (hb : Below wr.heap.size wr w') : RL w w' B pc k v :=
  ⟨h.bel.trans (hb.mono h.bel.size), h.b0.below hb, h.low, h.var.below hb, ownsRow_below h.own hb, Nat.le_trans h.top hb.size⟩
theorem RL.push {w W w' : World} {B : Nat} {pc : Int} {k : Nat} {v : Value} (h : RL w W B pc k v) (g cap : Nat) (hown : w'.ownsRow (B + 1) 26 1 (.slice (some ⟨g, 0, none⟩) (k + 1) cap) (k + 1) ((List.replicate k (0 : Int)).map (Value.int .u32) ++ [.int .u32 0])) (hgrow : W.grownBy w' v.ownBlock) :
    Bk w' B #[v, .int .u32 pc, .slice none 0 0] ∧ RL w (w'.setCell ⟨B, 0, none⟩ (.slice (some ⟨g, 0, none⟩) (k + 1) cap)) B pc (k + 1) (.slice (some ⟨g, 0, none⟩) (k + 1) cap) := by
  have hlow := own_low h.own
  have hbl : Below (B + 1) W w' := grown_below hgrow hlow h.top
  have hvar := h.var.low hbl (by omega)
  have hbt : Betw B (B + 1) w' (w'.setCell ⟨B, 0, none⟩ (.slice (some ⟨g, 0, none⟩) (k + 1) cap)) := (Betw.refl _ _ _).setCell (p := ⟨B, 0, none⟩) (Nat.le_refl _) (Nat.lt_succ_self _) _
  have hl := h.low
  have hb' := h.bel.trans (hbl.mono (by omega))
  rw [rep_snoc] at hown
  refine ⟨hvar, ⟨hb'.trans (hbt.below (by omega) hb'.size), (h.b0.low hbl (by omega)).other _ _ _ (by omega), hl, hvar.set 0 _ (by simp) rfl, ownsRow_betw hown hbt (Nat.le_refl _), ?_⟩⟩
  have := hbl.size
  have := h.top
  simp
  omega
/-- Rows that are laid one behind the other. -/
structure NS (w wr : World) (B T rg rc : Nat) (pc : Int) (k : Nat) (D : Nat → List Int) (v : Value) (m : Nat) (A : Nat → Option Addr) (C R : Nat → Nat) : Prop where
  bel : Below w.heap.size w wr
  b0 : Bk wr w.heap.size #[.slice none 0 0, .int .u32 0, .slice none 0 0]
  low : w.heap.size < B
  mid : B < T
  regs : ON .u32 wr (B + 1) T (some ⟨rg, 0, none⟩) regs0 rg
  var : Bk wr B #[.slice (some ⟨rg, 0, none⟩) 16 rc, .int .u32 pc, v]
  rows : Bla wr T m v k D A C R
  top : T ≤ wr.heap.size
theorem NS.below {w wr w' : World} {B T rg rc : Nat} {pc : Int} {k : Nat} {D : Nat → List Int} {v : Value} {m : Nat} {A : Nat → Option Addr} {C R : Nat → Nat} (h : NS w wr B T rg rc pc k D v m A C R) (hb : Below wr.heap.size wr w') : NS w w' B T rg rc pc k D v m A C R :=
  ⟨h.bel.trans (hb.mono h.bel.size), h.b0.below hb, h.low, h.mid, h.regs.below hb, h.var.below hb, h.rows.below hb, Nat.le_trans h.top hb.size⟩
theorem NS.push {w W w' : World} {B T rg rc : Nat} {pc : Int} {k : Nat} {D : Nat → List Int} {v : Value} {m : Nat} {A : Nat → Option Addr} {C R : Nat → Nat} (h : NS w W B T rg rc pc k D v m A C R) (a : Option Addr) (ca Rk g cap : Nat) (how : ON .u8 W T W.heap.size a (D k) Rk) (hR : 0 < (D k).length → m ≤ Rk) (hca : (D k).length ≤ ca)
    (hown : w'.ownsRow T 22 1 (.slice (some ⟨g, 0, none⟩) (k + 1) cap) (k + 1) (browCells A C D k ++ [.slice a (D k).length ca])) (hgrow : W.grownBy w' v.ownBlock) (hat : v.ownBlock = some g ∨ g = W.heap.size) (hg : g < w'.heap.size) :
    Bk w' B #[.slice (some ⟨rg, 0, none⟩) 16 rc, .int .u32 pc, v] ∧ ∃ m' A' C' R', NS w (w'.setCell ⟨B, 2, none⟩ (.slice (some ⟨g, 0, none⟩) (k + 1) cap)) B T rg rc pc (k + 1) D (.slice (some ⟨g, 0, none⟩) (k + 1) cap) m' A' C' R' := by
  have hlow := own_low h.rows.own
  have hbl : Below T W w' := grown_below hgrow hlow h.top
  have h2 := h.rows.step a ca Rk _ g cap how hR hca hown hgrow hat rfl hg
  have hmid := h.mid
  have hvar := h.var.low hbl hmid
  have hbt : Betw B (B + 1) w' (w'.setCell ⟨B, 2, none⟩ (.slice (some ⟨g, 0, none⟩) (k + 1) cap)) := (Betw.refl _ _ _).setCell (p := ⟨B, 2, none⟩) (Nat.le_refl _) (Nat.lt_succ_self _) _
  have hl := h.low
  have hb' := h.bel.trans (hbl.mono (by omega))
  have hrr := h.regs.range (by simp [regs0])
  have hreg : ON .u32 w' (B + 1) T (some ⟨rg, 0, none⟩) regs0 rg := on_low h.regs hbl (by omega)
  refine ⟨hvar, _, _, _, _, ⟨hb'.trans (hbt.below (by omega) hb'.size), (h.b0.low hbl (by omega)).other _ _ _ (by omega), hl, hmid, hreg.betw hbt (fun _ => .inr (by omega)), hvar.set 2 _ (by simp) rfl, h2.betw hbt (by omega), ?_⟩⟩
  have := hbl.size
  have := h.top
  simp
  omega
set_option maxHeartbeats 4000000 in
theorem spec_new_no (a : Option Addr) (cap n : Nat) (en : Int) (xs : List Wn) (w : World) (hs : ASeg w a xs) (hf : Fit xs) (hl : xs.length = n) (hn : n ≤ 9223372036854775807) (hc : n ≤ cap) (ho : ¬ WsOk xs) :
    Calls Try.prog 49 #[.slice a n cap, .int .i64 en] w fun e w' => e = .returned (gst none 0 0 0 none 0 0) ∧ Below w.heap.size w w' := by
  have hbw : Below w.heap.size w (w.alloc (.cells #[.slice none 0 0, .int .u32 0, .slice none 0 0] 29)) := (Below.refl _ w).alloc (Nat.le_refl _) _
  have B0 := Bk.new w #[.slice none 0 0, .int .u32 0, .slice none 0 0] 29 w.heap.size rfl
  have HWK : Hid _ := spec_wsok a cap n xs false _ (hs.below hbw) hl hn ⟨fun h => (by cases h), fun h => absurd h ho⟩
  have HB : Hid (Below w.heap.size w _) := hbw
  clear hs hf hl ho hbw
  go_enter Try.func49, Try.ntmps49
  go_wp2_with fail
  refine Calls.mono HWK.out ?_
  rintro u w1 ⟨rfl, hb1⟩
  have K1 := B0.below hb1
  have HB1 : Hid (Below w.heap.size w w1) := HB.out.trans (hb1.mono HB.out.size)
  have d0 := K1.cell 0 _ rfl
  have d1 := K1.cell 1 _ rfl
  have d2 := K1.cell 2 _ rfl
  have df := K1.free
  clear hb1 HWK B0 HB K1
  go_wp2
  refine bodyPost_ret (v := gst none 0 0 0 none 0 0) (by simp [results, Try.results49, go_sem, d0, d1, d2]) rfl ⟨rfl, ?_⟩
  first | exact HB1.out | exact ((HB1.out.setCell (p := ⟨w.heap.size, 0, none⟩) (by simp) _).setCell (p := ⟨w.heap.size, 1, none⟩) (by simp) _).setCell (p := ⟨w.heap.size, 2, none⟩) (by simp) _
set_option maxRecDepth 20000 in
set_option maxHeartbeats 8000000 in
theorem spec_new (a : Option Addr) (cap n : Nat) (en : Int) (xs : List Wn) (w : World) (hs : ASeg w a xs) (hf : Fit xs) (hl : xs.length = n) (hn : n ≤ 9223372036854775807) (hc : n ≤ cap) (ho : WsOk xs) :
    Calls Try.prog 49 #[.slice a n cap, .int .i64 en] w (GAns w regs0 16 (en % 4294967296) n (rows0 xs)) := by
  have hbw : Below w.heap.size w (w.alloc (.cells #[.slice none 0 0, .int .u32 0, .slice none 0 0] 29)) := (Below.refl _ w).alloc (Nat.le_refl _) _
  have B0 := Bk.new w #[.slice none 0 0, .int .u32 0, .slice none 0 0] 29 w.heap.size rfl
  have HWK : Hid _ := spec_wsok a cap n xs true _ (hs.below hbw) hl hn ⟨fun _ => ho, fun _ => rfl⟩
  have HB : Hid (Below w.heap.size w _) := hbw
  have HS : Hid (ASeg w a xs ∧ xs.length = n ∧ WsOk xs) := ⟨hs, hl, ho⟩
  have hn4 : n ≤ 4 := by have := ho.1; omega
  obtain ⟨iR, hI⟩ := infoR'
  have HI : Hid _ := hI
  obtain ⟨iU, hJ⟩ := infoU'
  have HJ : Hid _ := hJ
  obtain ⟨iB, hL⟩ := infoB'
  have HLb : Hid _ := hL
  clear hs hf hl ho hbw hI hJ hL
  go_enter Try.func49, Try.ntmps49
  go_wp2_with fail
  refine Calls.mono HWK.out ?_
  rintro u w1 ⟨rfl, hb1⟩
  obtain ⟨pc, HPC⟩ : ∃ pc, Hid (en % 4294967296 = pc) := ⟨_, rfl⟩
  have hz1 : w.heap.size < w1.heap.size := (B0.below hb1).lt
  have HR0 : Hid (RL w (w1.alloc (.cells #[.slice none 0 0, .int .u32 pc, .slice none 0 0] 29)) w1.heap.size pc 0 (.slice none 0 0)) := by
    have hal1 : Below w1.heap.size w1 (w1.alloc (.cells #[.slice none 0 0, .int .u32 pc, .slice none 0 0] 29)) := (Below.refl _ _).alloc (Nat.le_refl _) _
    have hb' := HB.out.trans (hb1.mono HB.out.size)
    exact ⟨hb'.trans (hal1.mono hb'.size), (B0.below hb1).below hal1, hz1, Bk.new w1 _ 29 w1.heap.size rfl, ⟨rfl, .inl ⟨rfl, rfl⟩⟩, by simp⟩
  clear hb1 HWK B0 HB
  go_wp2
  rw [HPC.out]
  obtain ⟨B, HBe⟩ : ∃ B, Hid (w1.heap.size = B) := ⟨_, rfl⟩
  rw [HBe.out] at HR0 hz1 ⊢
  go_loopw [6] (fun i wr => ∃ k : Nat, k ≤ 16 ∧ i = .int .i64 k ∧ Hid (∃ v, RL w wr B pc k v)) (fun i _ => 16 - (intOf i).toNat)
  case atStart => exact ⟨0, by omega, rfl, _, HR0.out⟩
  case round =>
    obtain ⟨k, hk, rfl, HU⟩ := hrel
    obtain ⟨v, hrl⟩ := HU.out
    clear HU HR0
    by_cases hk16 : k < 16
    · have hk16' : (k : Int) < 16 := by omega
      have hal : Below wr.heap.size wr (wr.alloc (.cells #[.int .u32 0] 26)) := (Below.refl _ _).alloc (Nat.le_refl _) _
      have HRL : Hid (RL w (wr.alloc (.cells #[.int .u32 0] 26)) B pc k v) := hrl.below hal
      have c0 := hrl.var.cell 0 _ rfl
      have HOW : Hid _ := HRL.out.own
      have HTP : Hid (B + 1 ≤ (wr.alloc (.cells #[.int .u32 0] 26)).heap.size) := HRL.out.top
      clear hrl hal
      go_wp2_with (at_builtin; (refine wpList_append_lies _ rfl (.tmp 22) (.tmp 23) 25 rfl (B + 1) 26 iU (.int .u32 0) 1 4 Try.underlying25 HJ.out.1 HJ.out.2.1 HJ.out.2.2.1 HJ.out.2.2.2 rfl (by omega) _ _ _ rfl HOW.out _ 1 1 [.int .u32 0] rfl rfl (news_at _ _ _ _ (by simp)) (one_num _ _) (by omega) (by unfold maxLen; omega) (by omega) HTP.out _ rfl ?_; intro g cap1 w9 hown1 hgrow hat hlt1; have HY : Hid _ := RL.push HRL.out g cap1 hown1 hgrow; have z0 := HY.out.1.cell 0 _ rfl; have zf := HY.out.1.free; clear hown1 hgrow hat hlt1))
      go_roundw
      case rel => exact ⟨k + 1, by omega, by go_num, _, HY.out.2⟩
      case measure => simp [intOf]; omega
    · obtain rfl : k = 16 := by omega
      obtain ⟨rg, rc, rfl, hrc, hon⟩ := on_of_owns (zs := List.replicate 16 0) (by simpa using hrl.own) (fun e => by
        have h1 := hrl.own
        rw [e] at h1
        rcases h1.2 with ⟨_, h⟩ | ⟨_, _, _, h, _⟩
        · omega
        · cases h)
      rw [List.length_replicate] at hrl hrc
      obtain ⟨T, HT⟩ : ∃ T, Hid (wr.heap.size = T) := ⟨_, rfl⟩
      have HN0 : Hid (NS w wr B T rg rc pc 0 (rows0 xs) (.slice none 0 0) T (fun _ => none) (fun _ => 0) (fun _ => 0)) := by
        have ht := HT.out
        have := hrl.top
        rw [ht] at hon
        exact ⟨hrl.bel, hrl.b0, hrl.low, by omega, hon, hrl.var, Bla.none _ _ _ _ _ _ _ (by omega), by omega⟩
      clear hrl hon hrc
      go_wp2
      go_loopw [7] (fun i wq => ∃ k : Nat, k ≤ n ∧ i = .int .i64 k ∧ Hid (∃ v m A C R, NS w wq B T rg rc pc k (rows0 xs) v m A C R)) (fun i _ => n - (intOf i).toNat)
      case atStart => exact ⟨0, by omega, rfl, _, _, _, _, _, HN0.out⟩
      case round =>
        obtain ⟨k, hk, rfl, HU⟩ := hrel
        rename World => wq
        obtain ⟨v, m, A, C, R, hnl⟩ := HU.out
        obtain ⟨av, cv, rfl⟩ := hnl.rows.form
        clear HN0 HU
        by_cases hkn : k < n
        · have hkn' : (k : Int) < (n : Int) := by omega
          obtain ⟨b1, o1, rfl, hbl1, p0, p1, p2⟩ := ASeg.at HS.out.1 k (by rw [HS.out.2.1]; exact hkn)
          have hwo := WsOk.at HS.out.2.2 (k := k) (by rw [HS.out.2.1]; exact hkn)
          obtain ⟨g1, g2, g3, g4, g5, _⟩ := hwo
          have hD : rows0 xs k = List.replicate (xs.getD k wn0).2.1.toNat 0 := rfl
          generalize xs.getD k wn0 = y at p0 p1 p2 g1 g2 g3 g4 g5 hD
          obtain ⟨y1, y2, y3⟩ := y
          simp only at p0 p1 p2 g1 g2 g3 g4 g5 hD
          obtain ⟨sz, rfl⟩ := Int.eq_ofNat_of_zero_le (show 0 ≤ y2 by omega)
          rw [Int.toNat_natCast] at hD
          have hsz : sz ≤ 2048 := by omega
          have HP1 : Hid (∀ X, Below w.heap.size w X → X.cell? ⟨b1, o1 + k * 3 + 1, none⟩ = some (.int .i64 (sz : Int))) := fun X hX => (hX.cell (p := ⟨b1, o1 + k * 3 + 1, none⟩) hbl1).trans p1
          have HD : Hid (rows0 xs k = List.replicate sz 0) := hD
          have HNS : Hid (NS w wq B T rg rc pc k (rows0 xs) (.slice av k cv) m A C R) := hnl
          have HI0 : Hid (Below wq.heap.size wq (wq.alloc (.cells #[] 5)) ∧ (wq.alloc (.cells #[] 5)).ownsRow wq.heap.size 5 1 (.slice (some ⟨wq.heap.size, 0, none⟩) 0 0) 0 ((List.replicate 0 (0 : Int)).map (Value.int .u8))) := ⟨(Below.refl _ _).alloc (Nat.le_refl _) _, own_empty wq 5 wq.heap.size rfl⟩
          clear hnl hD hbl1 p0 p1 p2 g1 g2 g3 g4 g5
          go_wp2
          go_loopw [8, 9] (fun l i wj => ∃ (j g8 c8 : Nat), j ≤ sz ∧ i = .int .i64 j ∧ l = .slice (some ⟨g8, 0, none⟩) j c8 ∧ Hid (Below wq.heap.size wq wj ∧ wj.ownsRow wq.heap.size 5 1 (.slice (some ⟨g8, 0, none⟩) j c8) j ((List.replicate j (0 : Int)).map (Value.int .u8)))) (fun _ i _ => sz - (intOf i).toNat)
          case atStart => exact ⟨0, _, _, by omega, rfl, rfl, HI0.out⟩
          case round =>
            obtain ⟨j, g8, c8, hj, rfl, rfl, HJ8⟩ := hrel
            rename World => wj
            clear HI0
            have hbj := HJ8.out.1
            have q1 := HP1.out _ (HNS.out.bel.trans (hbj.mono HNS.out.bel.size))
            by_cases hjs : j < sz
            · have hjs' : (j : Int) < (sz : Int) := by omega
              have hal : Below wj.heap.size wj (wj.alloc (.cells #[.int .u8 0] 5)) := (Below.refl _ _).alloc (Nat.le_refl _) _
              have HO8 : Hid _ := ownsRow_below HJ8.out.2 hal
              have HBJ : Hid (Below wq.heap.size wq (wj.alloc (.cells #[.int .u8 0] 5))) := hbj.trans (hal.mono hbj.size)
              clear hbj hal
              go_wp2_with (at_builtin; (refine wpList_append_lies _ rfl (.tmp 42) (.tmp 43) 22 rfl wq.heap.size 5 iB (.int .u8 0) 1 1 Try.underlying22 HLb.out.1 HLb.out.2.1 HLb.out.2.2.1 HLb.out.2.2.2 rfl (by omega) _ _ _ rfl HO8.out _ 1 1 [.int .u8 0] rfl rfl (news_at _ _ _ _ (by simp)) (one_num _ _) (by omega) (by unfold maxLen; omega) (by omega) HBJ.out.size _ rfl ?_; intro g9 cap9 w9 hown9 hgrow9 hat9 hlt9; have HY : Hid (Below wq.heap.size wq w9 ∧ w9.ownsRow wq.heap.size 5 1 (.slice (some ⟨g9, 0, none⟩) (j + 1) cap9) (j + 1) ((List.replicate (j + 1) (0 : Int)).map (Value.int .u8))) := ⟨HBJ.out.trans (grown_below hgrow9 (own_low HO8.out) HBJ.out.size), by rw [← rep_snoc]; exact hown9⟩; clear hown9 hgrow9 hat9 hlt9))
              go_roundw
              case rel => exact ⟨j + 1, _, _, by omega, by go_num, rfl, HY⟩
              case measure => simp [intOf]; omega
            · obtain rfl : j = sz := by omega
              obtain ⟨g', c', e', hc', hon'⟩ := on_of_owns (k := .u8) (zs := List.replicate j 0) (by simpa using HJ8.out.2) (fun e => by cases e)
              rw [List.length_replicate] at e' hc'
              cases e'
              have hal : Below wj.heap.size wj (wj.alloc (.cells #[.slice (some ⟨g8, 0, none⟩) j c8] 22)) := (Below.refl _ _).alloc (Nat.le_refl _) _
              have hbq := hbj.trans (hal.mono hbj.size)
              have HNS2 : Hid (NS w (wj.alloc (.cells #[.slice (some ⟨g8, 0, none⟩) j c8] 22)) B T rg rc pc k (rows0 xs) (.slice av k cv) m A C R) := HNS.out.below hbq
              have HRW : Hid (ON .u8 (wj.alloc (.cells #[.slice (some ⟨g8, 0, none⟩) j c8] 22)) wq.heap.size (wj.alloc (.cells #[.slice (some ⟨g8, 0, none⟩) j c8] 22)).heap.size (some ⟨g8, 0, none⟩) (rows0 xs k) g8) := by
                rw [HD.out]
                exact (hon'.below hal).wide (Nat.le_refl _) hal.size
              have HOWN : Hid _ := HNS2.out.rows.own
              have HSZ : Hid (T ≤ (wj.alloc (.cells #[.slice (some ⟨g8, 0, none⟩) j c8] 22)).heap.size) := HNS2.out.top
              have HLN : Hid ((rows0 xs k).length = j ∧ m ≤ wq.heap.size ∧ T ≤ wq.heap.size) := ⟨by rw [HD.out]; simp, HNS.out.rows.mle, HNS.out.top⟩
              have c2 := (HNS.out.below hbj).var.cell 2 _ rfl
              clear hal hbq hbj hon'
              go_wp2_with (at_builtin; (refine wpList_append_lies _ rfl (.tmp 46) (.tmp 48) 27 rfl T 22 iR (.slice none 0 0) 1 24 Try.underlying27 HI.out.1 HI.out.2.1 HI.out.2.2.1 HI.out.2.2.2 rfl (by omega) _ _ _ rfl HOWN.out _ 1 1 [.slice (some ⟨g8, 0, none⟩) j c8] rfl rfl (news_at _ _ _ _ (by simp)) (one_slice _ _ _) (by omega) (by unfold maxLen; omega) (by omega) HSZ.out _ rfl ?_; intro g9 cap9 w9 hown9 hgrow9 hat9 hlt9; have HPU : Hid _ := NS.push HNS2.out (some ⟨g8, 0, none⟩) c8 g8 g9 cap9 (ON.wide HRW.out HLN.out.2.2 (Nat.le_refl _)) (fun h => Nat.le_trans HLN.out.2.1 (ON.range HRW.out h).1) (by rw [HLN.out.1]; exact hc') (by rw [HLN.out.1]; exact hown9) hgrow9 hat9 hlt9; have z2 := HPU.out.1.cell 2 _ rfl; have zf := HPU.out.1.free; clear hown9 hgrow9 hat9 hlt9))
              obtain ⟨m', A', C', R', HZ⟩ := HPU.out.2
              go_roundw
              case rel => exact ⟨k + 1, by omega, by go_num, _, _, _, _, _, HZ⟩
              case measure => simp [intOf]; omega
        · obtain rfl : k = n := by omega
          obtain ⟨a', c', e', hrows⟩ := hnl.rows.rows
          cases e'
          have V4 := hnl.var
          have K4 := hnl.b0
          have p0 := V4.cell 0 _ rfl
          have p1 := V4.cell 1 _ rfl
          have p2 := V4.cell 2 _ rfl
          have d0 := K4.cell 0 _ rfl
          have d1 := (K4.set 0 (.slice (some ⟨rg, 0, none⟩) 16 rc) (by simp) rfl).cell 1 _ rfl
          have d2 := ((K4.set 0 (.slice (some ⟨rg, 0, none⟩) 16 rc) (by simp) rfl).set 1 (.int .u32 pc) (by simp) rfl).cell 2 _ rfl
          have df := K4.free
          have G2 := ((K4.set 0 (.slice (some ⟨rg, 0, none⟩) 16 rc) (by simp) rfl).set 1 (.int .u32 pc) (by simp) rfl).set 2 (.slice av k cv) (by simp) rfl
          have n0 := G2.cell 0 _ rfl
          have n1 := G2.cell 1 _ rfl
          have n2 := G2.cell 2 _ rfl
          have HZ : Hid (ON .u32 wq (B + 1) T (some ⟨rg, 0, none⟩) regs0 rg ∧ BRows wq T m av k (rows0 xs) ∧ Below w.heap.size w wq ∧ w.heap.size < B ∧ B < T) := ⟨hnl.regs, hrows, hnl.bel, hnl.low, hnl.mid⟩
          clear V4 K4 G2 hrows hnl
          go_wp2
          obtain ⟨h1, h2, h3, h4, h5⟩ := HZ.out
          have hbt := (((Betw.refl w.heap.size (w.heap.size + 1) wq).setCell (p := ⟨w.heap.size, 0, none⟩) (by simp) (by simp) (.slice (some ⟨rg, 0, none⟩) 16 rc)).setCell (p := ⟨w.heap.size, 1, none⟩) (by simp) (by simp) (.int .u32 pc)).setCell (p := ⟨w.heap.size, 2, none⟩) (by simp) (by simp) (.slice av k cv)
          refine bodyPost_ret (v := gst (some ⟨rg, 0, none⟩) 16 rc pc av k cv) (by simp [results, Try.results49, go_sem, n0, n1, n2]) rfl ⟨_, _, _, _, by rw [HPC.out], ?_, ⟨(h1.betw hbt (fun h => by have := h1.range h; omega)).seg, (h2.betw hbt (.inr (by omega))).seg⟩⟩
          exact ((h3.setCell (p := ⟨w.heap.size, 0, none⟩) (by simp) _).setCell (p := ⟨w.heap.size, 1, none⟩) (by simp) _).setCell (p := ⟨w.heap.size, 2, none⟩) (by simp) _
end Go.Proofs.Ytanffdedignegaa
