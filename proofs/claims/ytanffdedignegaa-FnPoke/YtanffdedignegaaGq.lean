/-
  What the specification's GuestNew answers lies in memory of its own. Conditions: the windows are right.
  A guest that is being drawn: the cursor, two windows, the guest's box, its registers and its memory, each in memory of its own. No function of the program in sight; no conditions but those that each fact names.
  A guest, drawn: two windows that are right, sixteen registers and the windows' bytes, in memory of their own. Conditions: the cursor stands over bytes.
  A drawn guest, right or turned in one place: two windows and a guest, as they are read. Conditions: the cursor stands over bytes.
-/
import Derived.Test.YtanffdedignegaaGns
import Derived.Test.YtanffdedignegaaSq
import Derived.Test.YtanffdedignegaaPok
import Derived.Test.YtanffdedignegaaRgi
import Derived.Test.YtanffdedignegaaAlk
import Derived.Test.YtanffdedignegaaSpa
import Derived.Test.YtanffdedignegaaDq
namespace Go.Proofs.Ytanffdedignegaa
open Go.ChangeShapes Go.WideShapes Go.ChangeAt Go.RowKit Go.Deep
set_option linter.unusedVariables false


/-- A guest as it starts, in memory of its own. -/
def NAns (X : World) (pc : Int) (n : Nat) (xs : List Wn) (e : Ending) (w' : World) : Prop :=
  ∃ ra' ma' rc' mc' m, e = .returned (gst ra' 16 rc' pc ma' n mc') ∧ Below X.heap.size X w' ∧ OGst w' X.heap.size m w'.heap.size ra' ma' regs0 n (rows0 xs) ∧ X.heap.size ≤ m ∧ m ≤ w'.heap.size ∧ 16 ≤ rc' ∧ n ≤ mc' ∧ (∀ b o, ma' = some ⟨b, o, none⟩ → ∀ j, w'.frozen? ⟨b, j, none⟩ = false)
set_option maxRecDepth 20000 in
set_option maxHeartbeats 8000000 in
theorem spec_newO (a : Option Addr) (cap n : Nat) (en : Int) (xs : List Wn) (w : World) (hs : ASeg w a xs) (hf : Fit xs) (hl : xs.length = n) (hn : n ≤ 9223372036854775807) (hc : n ≤ cap) (ho : WsOk xs) :
    Calls Try.prog 49 #[.slice a n cap, .int .i64 en] w (NAns w (en % 4294967296) n xs) := by
  have hbw : Below w.heap.size w (w.alloc (.cells #[.slice none 0 0, .int .u32 0, .slice none 0 0] 29)) := (Below.refl _ w).alloc (Nat.le_refl _) _
  have B0 := Bk.new w #[.slice none 0 0, .int .u32 0, .slice none 0 0] 29 w.heap.size rfl
  have HWK : Hid _ := spec_wsok a cap n xs true _ (hs.below hbw) hl hn ⟨fun _ => ho, fun _ => rfl⟩
  have HB : Hid (Below w.heap.size w _) := hbw
  have HS : Hid (ASeg w a xs ∧ xs.length = n ∧ WsOk xs) := ⟨hs, hl, ho⟩
  have hn4 : n ≤ 4 := by have := ho.1; omega
  obtain ⟨iR, hI⟩ := infoR'
  have HI : Hid _ := hI
  obtain ⟨iU, hJ⟩ := infoU'
  have HJ : Hid _ := hJ
  obtain ⟨iB, hL⟩ := infoB'
  have HLb : Hid _ := hL
  clear hs hf hl ho hbw hI hJ hL
  go_enter Try.func49, Try.ntmps49
  go_wp2_with fail
  refine Calls.mono HWK.out ?_
  rintro u w1 ⟨rfl, hb1⟩
  obtain ⟨pc, HPC⟩ : ∃ pc, Hid (en % 4294967296 = pc) := ⟨_, rfl⟩
  have hz1 : w.heap.size < w1.heap.size := (B0.below hb1).lt
  have HR0 : Hid (RL w (w1.alloc (.cells #[.slice none 0 0, .int .u32 pc, .slice none 0 0] 29)) w1.heap.size pc 0 (.slice none 0 0)) := by
    have hal1 : Below w1.heap.size w1 (w1.alloc (.cells #[.slice none 0 0, .int .u32 pc, .slice none 0 0] 29)) := (Below.refl _ _).alloc (Nat.le_refl _) _
    have hb' := HB.out.trans (hb1.mono HB.out.size)
    exact ⟨hb'.trans (hal1.mono hb'.size), (B0.below hb1).below hal1, hz1, Bk.new w1 _ 29 w1.heap.size rfl, ⟨rfl, .inl ⟨rfl, rfl⟩⟩, by simp⟩
  clear hb1 HWK B0 HB
  go_wp2
  rw [HPC.out]
  obtain ⟨B, HBe⟩ : ∃ B, Hid (w1.heap.size = B) := ⟨_, rfl⟩
  rw [HBe.out] at HR0 hz1 ⊢
  go_loopw [6] (fun i wr => ∃ k : Nat, k ≤ 16 ∧ i = .int .i64 k ∧ Hid (∃ v, RL w wr B pc k v)) (fun i _ => 16 - (intOf i).toNat)
  case atStart => exact ⟨0, by omega, rfl, _, HR0.out⟩
  case round =>
    obtain ⟨k, hk, rfl, HU⟩ := hrel
    obtain ⟨v, hrl⟩ := HU.out
    clear HU HR0
    by_cases hk16 : k < 16
    · have hk16' : (k : Int) < 16 := by omega
      have hal : Below wr.heap.size wr (wr.alloc (.cells #[.int .u32 0] 26)) := (Below.refl _ _).alloc (Nat.le_refl _) _
      have HRL : Hid (RL w (wr.alloc (.cells #[.int .u32 0] 26)) B pc k v) := hrl.below hal
      have c0 := hrl.var.cell 0 _ rfl
      have HOW : Hid _ := HRL.out.own
      have HTP : Hid (B + 1 ≤ (wr.alloc (.cells #[.int .u32 0] 26)).heap.size) := HRL.out.top
      clear hrl hal
      go_wp2_with (at_builtin; (refine wpList_append_lies _ rfl (.tmp 22) (.tmp 23) 25 rfl (B + 1) 26 iU (.int .u32 0) 1 4 Try.underlying25 HJ.out.1 HJ.out.2.1 HJ.out.2.2.1 HJ.out.2.2.2 rfl (by omega) _ _ _ rfl HOW.out _ 1 1 [.int .u32 0] rfl rfl (news_at _ _ _ _ (by simp)) (one_num _ _) (by omega) (by unfold maxLen; omega) (by omega) HTP.out _ rfl ?_; intro g cap1 w9 hown1 hgrow hat hlt1; have HY : Hid _ := RL.push HRL.out g cap1 hown1 hgrow; have z0 := HY.out.1.cell 0 _ rfl; have zf := HY.out.1.free; clear hown1 hgrow hat hlt1))
      go_roundw
      case rel => exact ⟨k + 1, by omega, by go_num, _, HY.out.2⟩
      case measure => simp [intOf]; omega
    · obtain rfl : k = 16 := by omega
      obtain ⟨rg, rc, rfl, hrc, hon⟩ := on_of_owns (zs := List.replicate 16 0) (by simpa using hrl.own) (fun e => by
        have h1 := hrl.own
        rw [e] at h1
        rcases h1.2 with ⟨_, h⟩ | ⟨_, _, _, h, _⟩
        · omega
        · cases h)
      rw [List.length_replicate] at hrl hrc
      obtain ⟨T, HT⟩ : ∃ T, Hid (wr.heap.size = T) := ⟨_, rfl⟩
      have HN0 : Hid (NS w wr B T rg rc pc 0 (rows0 xs) (.slice none 0 0) T (fun _ => none) (fun _ => 0) (fun _ => 0)) := by
        have ht := HT.out
        have := hrl.top
        rw [ht] at hon
        exact ⟨hrl.bel, hrl.b0, hrl.low, by omega, hon, hrl.var, Bla.none _ _ _ _ _ _ _ (by omega), by omega⟩
      have HRC : Hid (16 ≤ rc) := hrc
      clear hrl hon hrc
      go_wp2
      go_loopw [7] (fun i wq => ∃ k : Nat, k ≤ n ∧ i = .int .i64 k ∧ Hid (∃ v m A C R, NS w wq B T rg rc pc k (rows0 xs) v m A C R)) (fun i _ => n - (intOf i).toNat)
      case atStart => exact ⟨0, by omega, rfl, _, _, _, _, _, HN0.out⟩
      case round =>
        obtain ⟨k, hk, rfl, HU⟩ := hrel
        rename World => wq
        obtain ⟨v, m, A, C, R, hnl⟩ := HU.out
        obtain ⟨av, cv, rfl⟩ := hnl.rows.form
        clear HN0 HU
        by_cases hkn : k < n
        · have hkn' : (k : Int) < (n : Int) := by omega
          obtain ⟨b1, o1, rfl, hbl1, p0, p1, p2⟩ := ASeg.at HS.out.1 k (by rw [HS.out.2.1]; exact hkn)
          have hwo := WsOk.at HS.out.2.2 (k := k) (by rw [HS.out.2.1]; exact hkn)
          obtain ⟨g1, g2, g3, g4, g5, _⟩ := hwo
          have hD : rows0 xs k = List.replicate (xs.getD k wn0).2.1.toNat 0 := rfl
          generalize xs.getD k wn0 = y at p0 p1 p2 g1 g2 g3 g4 g5 hD
          obtain ⟨y1, y2, y3⟩ := y
          simp only at p0 p1 p2 g1 g2 g3 g4 g5 hD
          obtain ⟨sz, rfl⟩ := Int.eq_ofNat_of_zero_le (show 0 ≤ y2 by omega)
          rw [Int.toNat_natCast] at hD
          have hsz : sz ≤ 2048 := by omega
          have HP1 : Hid (∀ X, Below w.heap.size w X → X.cell? ⟨b1, o1 + k * 3 + 1, none⟩ = some (.int .i64 (sz : Int))) := fun X hX => (hX.cell (p := ⟨b1, o1 + k * 3 + 1, none⟩) hbl1).trans p1
          have HD : Hid (rows0 xs k = List.replicate sz 0) := hD
          have HNS : Hid (NS w wq B T rg rc pc k (rows0 xs) (.slice av k cv) m A C R) := hnl
          have HI0 : Hid (Below wq.heap.size wq (wq.alloc (.cells #[] 5)) ∧ (wq.alloc (.cells #[] 5)).ownsRow wq.heap.size 5 1 (.slice (some ⟨wq.heap.size, 0, none⟩) 0 0) 0 ((List.replicate 0 (0 : Int)).map (Value.int .u8))) := ⟨(Below.refl _ _).alloc (Nat.le_refl _) _, own_empty wq 5 wq.heap.size rfl⟩
          clear hnl hD hbl1 p0 p1 p2 g1 g2 g3 g4 g5
          go_wp2
          go_loopw [8, 9] (fun l i wj => ∃ (j g8 c8 : Nat), j ≤ sz ∧ i = .int .i64 j ∧ l = .slice (some ⟨g8, 0, none⟩) j c8 ∧ Hid (Below wq.heap.size wq wj ∧ wj.ownsRow wq.heap.size 5 1 (.slice (some ⟨g8, 0, none⟩) j c8) j ((List.replicate j (0 : Int)).map (Value.int .u8)))) (fun _ i _ => sz - (intOf i).toNat)
          case atStart => exact ⟨0, _, _, by omega, rfl, rfl, HI0.out⟩
          case round =>
            obtain ⟨j, g8, c8, hj, rfl, rfl, HJ8⟩ := hrel
            rename World => wj
            clear HI0
            have hbj := HJ8.out.1
            have q1 := HP1.out _ (HNS.out.bel.trans (hbj.mono HNS.out.bel.size))
            by_cases hjs : j < sz
            · have hjs' : (j : Int) < (sz : Int) := by omega
              have hal : Below wj.heap.size wj (wj.alloc (.cells #[.int .u8 0] 5)) := (Below.refl _ _).alloc (Nat.le_refl _) _
              have HO8 : Hid _ := ownsRow_below HJ8.out.2 hal
              have HBJ : Hid (Below wq.heap.size wq (wj.alloc (.cells #[.int .u8 0] 5))) := hbj.trans (hal.mono hbj.size)
              clear hbj hal
              go_wp2_with (at_builtin; (refine wpList_append_lies _ rfl (.tmp 42) (.tmp 43) 22 rfl wq.heap.size 5 iB (.int .u8 0) 1 1 Try.underlying22 HLb.out.1 HLb.out.2.1 HLb.out.2.2.1 HLb.out.2.2.2 rfl (by omega) _ _ _ rfl HO8.out _ 1 1 [.int .u8 0] rfl rfl (news_at _ _ _ _ (by simp)) (one_num _ _) (by omega) (by unfold maxLen; omega) (by omega) HBJ.out.size _ rfl ?_; intro g9 cap9 w9 hown9 hgrow9 hat9 hlt9; have HY : Hid (Below wq.heap.size wq w9 ∧ w9.ownsRow wq.heap.size 5 1 (.slice (some ⟨g9, 0, none⟩) (j + 1) cap9) (j + 1) ((List.replicate (j + 1) (0 : Int)).map (Value.int .u8))) := ⟨HBJ.out.trans (grown_below hgrow9 (own_low HO8.out) HBJ.out.size), by rw [← rep_snoc]; exact hown9⟩; clear hown9 hgrow9 hat9 hlt9))
              go_roundw
              case rel => exact ⟨j + 1, _, _, by omega, by go_num, rfl, HY⟩
              case measure => simp [intOf]; omega
            · obtain rfl : j = sz := by omega
              obtain ⟨g', c', e', hc', hon'⟩ := on_of_owns (k := .u8) (zs := List.replicate j 0) (by simpa using HJ8.out.2) (fun e => by cases e)
              rw [List.length_replicate] at e' hc'
              cases e'
              have hal : Below wj.heap.size wj (wj.alloc (.cells #[.slice (some ⟨g8, 0, none⟩) j c8] 22)) := (Below.refl _ _).alloc (Nat.le_refl _) _
              have hbq := hbj.trans (hal.mono hbj.size)
              have HNS2 : Hid (NS w (wj.alloc (.cells #[.slice (some ⟨g8, 0, none⟩) j c8] 22)) B T rg rc pc k (rows0 xs) (.slice av k cv) m A C R) := HNS.out.below hbq
              have HRW : Hid (ON .u8 (wj.alloc (.cells #[.slice (some ⟨g8, 0, none⟩) j c8] 22)) wq.heap.size (wj.alloc (.cells #[.slice (some ⟨g8, 0, none⟩) j c8] 22)).heap.size (some ⟨g8, 0, none⟩) (rows0 xs k) g8) := by
                rw [HD.out]
                exact (hon'.below hal).wide (Nat.le_refl _) hal.size
              have HOWN : Hid _ := HNS2.out.rows.own
              have HSZ : Hid (T ≤ (wj.alloc (.cells #[.slice (some ⟨g8, 0, none⟩) j c8] 22)).heap.size) := HNS2.out.top
              have HLN : Hid ((rows0 xs k).length = j ∧ m ≤ wq.heap.size ∧ T ≤ wq.heap.size) := ⟨by rw [HD.out]; simp, HNS.out.rows.mle, HNS.out.top⟩
              have c2 := (HNS.out.below hbj).var.cell 2 _ rfl
              clear hal hbq hbj hon'
              go_wp2_with (at_builtin; (refine wpList_append_lies _ rfl (.tmp 46) (.tmp 48) 27 rfl T 22 iR (.slice none 0 0) 1 24 Try.underlying27 HI.out.1 HI.out.2.1 HI.out.2.2.1 HI.out.2.2.2 rfl (by omega) _ _ _ rfl HOWN.out _ 1 1 [.slice (some ⟨g8, 0, none⟩) j c8] rfl rfl (news_at _ _ _ _ (by simp)) (one_slice _ _ _) (by omega) (by unfold maxLen; omega) (by omega) HSZ.out _ rfl ?_; intro g9 cap9 w9 hown9 hgrow9 hat9 hlt9; have HPU : Hid _ := NS.push HNS2.out (some ⟨g8, 0, none⟩) c8 g8 g9 cap9 (ON.wide HRW.out HLN.out.2.2 (Nat.le_refl _)) (fun h => Nat.le_trans HLN.out.2.1 (ON.range HRW.out h).1) (by rw [HLN.out.1]; exact hc') (by rw [HLN.out.1]; exact hown9) hgrow9 hat9 hlt9; have z2 := HPU.out.1.cell 2 _ rfl; have zf := HPU.out.1.free; clear hown9 hgrow9 hat9 hlt9))
              obtain ⟨m', A', C', R', HZ⟩ := HPU.out.2
              go_roundw
              case rel => exact ⟨k + 1, by omega, by go_num, _, _, _, _, _, HZ⟩
              case measure => simp [intOf]; omega
        · obtain rfl : k = n := by omega
          obtain ⟨a', c', e', hrows⟩ := hnl.rows.rows
          cases e'
          have V4 := hnl.var
          have K4 := hnl.b0
          have p0 := V4.cell 0 _ rfl
          have p1 := V4.cell 1 _ rfl
          have p2 := V4.cell 2 _ rfl
          have d0 := K4.cell 0 _ rfl
          have d1 := (K4.set 0 (.slice (some ⟨rg, 0, none⟩) 16 rc) (by simp) rfl).cell 1 _ rfl
          have d2 := ((K4.set 0 (.slice (some ⟨rg, 0, none⟩) 16 rc) (by simp) rfl).set 1 (.int .u32 pc) (by simp) rfl).cell 2 _ rfl
          have df := K4.free
          have G2 := ((K4.set 0 (.slice (some ⟨rg, 0, none⟩) 16 rc) (by simp) rfl).set 1 (.int .u32 pc) (by simp) rfl).set 2 (.slice av k cv) (by simp) rfl
          have n0 := G2.cell 0 _ rfl
          have n1 := G2.cell 1 _ rfl
          have n2 := G2.cell 2 _ rfl
          have HZ : Hid (ON .u32 wq (B + 1) T (some ⟨rg, 0, none⟩) regs0 rg ∧ BRows wq T m av k (rows0 xs) ∧ Below w.heap.size w wq ∧ w.heap.size < B ∧ B < T ∧ m ≤ wq.heap.size ∧ T ≤ wq.heap.size ∧ k ≤ cv ∧ (∀ b o, av = some ⟨b, o, none⟩ → ∀ j, wq.frozen? ⟨b, j, none⟩ = false)) := ⟨hnl.regs, hrows, hnl.bel, hnl.low, hnl.mid, hnl.rows.mle, hnl.top, by
            rcases hnl.rows.own.2 with ⟨e, h⟩ | ⟨g, c, cu, e, _, _, hl, _⟩
            · omega
            · injection e with e1 e2 e3
              omega, fun b o hb j => by
            rcases hnl.rows.own.2 with ⟨e, h⟩ | ⟨g, c, cu, e, _, hg, _⟩
            · injection e with e1
              rw [e1] at hb
              cases hb
            · injection e with e1
              rw [e1] at hb
              injection hb with hb
              injection hb with hb1
              subst hb1
              simp [World.frozen?, hg]⟩
          clear V4 K4 G2 hrows hnl
          go_wp2
          obtain ⟨h1, h2, h3, h4, h5, h6, h7, h8, h9⟩ := HZ.out
          have hbt := (((Betw.refl w.heap.size (w.heap.size + 1) wq).setCell (p := ⟨w.heap.size, 0, none⟩) (by simp) (by simp) (.slice (some ⟨rg, 0, none⟩) 16 rc)).setCell (p := ⟨w.heap.size, 1, none⟩) (by simp) (by simp) (.int .u32 pc)).setCell (p := ⟨w.heap.size, 2, none⟩) (by simp) (by simp) (.slice av k cv)
          refine bodyPost_ret (v := gst (some ⟨rg, 0, none⟩) 16 rc pc av k cv) (by simp [results, Try.results49, go_sem, n0, n1, n2]) rfl ⟨_, _, _, _, T, by rw [HPC.out], ?_, ⟨⟨rg, (h1.betw hbt (fun h => by have := h1.range h; omega)).wide (by omega) (Nat.le_refl _)⟩, (h2.betw hbt (.inr (by omega))).wide (Nat.le_refl _) (Nat.le_trans h6 hbt.size)⟩, by omega, Nat.le_trans h7 hbt.size, HRC.out, h8, fun b o hb j => by simp only [World.frozen?_setCell]; exact h9 b o hb j⟩
          exact ((h3.setCell (p := ⟨w.heap.size, 0, none⟩) (by simp) _).setCell (p := ⟨w.heap.size, 1, none⟩) (by simp) _).setCell (p := ⟨w.heap.size, 2, none⟩) (by simp) _
end Go.Proofs.Ytanffdedignegaa
namespace Go.Proofs.Ytanffdedignegaa
open Go.ChangeShapes Go.WideShapes Go.ChangeAt Go.RowKit Go.Deep
set_option linter.unusedVariables false
namespace Iy

theorem CT.far {w X Y : World} {B : Nat} {a : Option Addr} {zs : List Int} {cap : Nat} (h : CT w X B a zs cap) (hb : Below w.heap.size X Y) : CT w Y B a zs cap :=
  ⟨h.cur.belowC hb h.lo h.la, h.turn.then_below hb, h.lo, h.la⟩
theorem turn_betw {B : Nat} {X Y : World} (h : Turn B X Y) : Betw B (B + 1) X Y := ⟨h.os, h.tape, h.output, h.size, fun k hk ho => h.block k hk (by omega)⟩
abbrev wcl (x0 x1 : Wn) : Array Value := #[.int .i64 x0.1, .int .i64 x0.2.1, .int .i64 x0.2.2, .int .i64 x1.1, .int .i64 x1.2.1, .int .i64 x1.2.2]
theorem bk_betw {w w' : World} {b lo hi : Nat} {cs : Array Value} (h : Bk w b cs) (hb : Betw lo hi w w') (ho : b < lo ∨ hi ≤ b) : Bk w' b cs :=
  ⟨Nat.lt_of_lt_of_le h.lt hb.size, fun i v e => (hb.cell (p := ⟨b, i, none⟩) h.lt ho).trans (h.cell i v e), fun i => (hb.frozen (p := ⟨b, i, none⟩) h.lt ho).trans (h.free i)⟩
structure GU (w X : World) (B : Nat) (a : Option Addr) (zs : List Int) (cap : Nat) (G lo m hi P : Nat) (x0 x1 : Wn) (ra ma : Option Addr) (rc mc : Nat) (pc : Int) (rs : List Int) (D : Nat → List Int) : Prop where
  ct : CT w X B a zs cap
  wn : Bk X G (wcl x0 x1)
  gs : OGst X lo m hi ra ma rs 2 D
  bx : Bk X P #[.slice ra 16 rc, .int .u32 pc, .slice ma 2 mc]
  o1 : w.heap.size ≤ G
  o2 : G < lo
  o3 : lo ≤ m
  o4 : m ≤ hi
  o5 : hi ≤ P
  rl : rs.length = 16
  d0 : (D 0).length = 128
  d1 : (D 1).length = 64
  b8 : ∀ i, i < 2 → ∀ z ∈ D i, (Lit.int .u8 z).wf = true
  mf : ∀ b o, ma = some ⟨b, o, none⟩ → ∀ j, X.frozen? ⟨b, j, none⟩ = false
variable {w X Y : World} {B : Nat} {a : Option Addr} {zs : List Int} {cap : Nat} {G lo m hi P : Nat} {x0 x1 : Wn} {ra ma : Option Addr} {rc mc : Nat} {pc : Int} {rs : List Int} {D : Nat → List Int}
theorem GU.rng (h : GU w X B a zs cap G lo m hi P x0 x1 ra ma rc mc pc rs D) (b o : Nat) (e : ma = some ⟨b, o, none⟩) : m ≤ b ∧ b < hi ∧ b < X.heap.size := by
  obtain ⟨_, Bb, off, A, C, R, h1, h2⟩ := h.gs
  obtain ⟨e1, g1, g2, g3⟩ := h1 (by omega)
  rw [e] at e1
  injection e1 with e1
  injection e1 with e1
  subst e1
  exact ⟨g1, g2, g3⟩
theorem GU.mfb (h : GU w X B a zs cap G lo m hi P x0 x1 ra ma rc mc pc rs D) {l' h' : Nat} (hb : Betw l' h' X Y) (ho : ∀ b o, ma = some ⟨b, o, none⟩ → b < l' ∨ h' ≤ b) : ∀ b o, ma = some ⟨b, o, none⟩ → ∀ j, Y.frozen? ⟨b, j, none⟩ = false := fun b o e j =>
  (hb.frozen (p := ⟨b, j, none⟩) (h.rng b o e).2.2 (ho b o e)).trans (h.mf b o e j)
theorem GU.turn (h : GU w X B a zs cap G lo m hi P x0 x1 ra ma rc mc pc rs D) (hc : Cur Y B a zs cap) (ht : Turn B X Y) : GU w Y B a zs cap G lo m hi P x0 x1 ra ma rc mc pc rs D := by
  have h1 := h.ct.lo
  have h2 := h.o1
  have h3 := h.o2
  have h4 := h.o3
  have h5 := h.o4
  have h6 := h.o5
  exact ⟨h.ct.step hc ht, bk_betw h.wn (turn_betw ht) (by omega), h.gs.betw (turn_betw ht) (.inr (by omega)) h.o3 h.o4, bk_betw h.bx (turn_betw ht) (by omega), h.o1, h.o2, h.o3, h.o4, h.o5, h.rl, h.d0, h.d1, h.b8, h.mfb (turn_betw ht) (fun b o e => by have := h.rng b o e; omega)⟩
theorem GU.below (h : GU w X B a zs cap G lo m hi P x0 x1 ra ma rc mc pc rs D) (hb : Below X.heap.size X Y) : GU w Y B a zs cap G lo m hi P x0 x1 ra ma rc mc pc rs D :=
  ⟨h.ct.below hb, h.wn.below hb, h.gs.below hb, h.bx.below hb, h.o1, h.o2, h.o3, h.o4, h.o5, h.rl, h.d0, h.d1, h.b8, h.mfb (Below.betw hb : Betw 0 0 X Y) (fun b o e => .inr (Nat.zero_le _))⟩
theorem GU.ram {D' : Nat → List Int} {bi : Nat} (h : GU w X B a zs cap G lo m hi P x0 x1 ra ma rc mc pc rs D) (hb : Betw bi (bi + 1) X Y) (h1 : m ≤ bi) (h2 : bi < hi) (hne : ∀ b o, ma = some ⟨b, o, none⟩ → b ≠ bi) (hr : BRows Y m hi ma 2 D') (e0 : (D' 0).length = 128) (e1 : (D' 1).length = 64) (hz : ∀ i, i < 2 → ∀ z ∈ D' i, (Lit.int .u8 z).wf = true) : GU w Y B a zs cap G lo m hi P x0 x1 ra ma rc mc pc rs D' := by
  have k1 := h.ct.lo
  have k2 := h.o1
  have k3 := h.o2
  have k4 := h.o3
  have k5 := h.o4
  have k6 := h.o5
  have ht := h.ct.turn.size
  obtain ⟨⟨R, hR⟩, _⟩ := h.gs
  exact ⟨h.ct.far (hb.below (by omega) (by omega)), bk_betw h.wn hb (by omega), ⟨⟨R, hR.betw hb (fun g => by have := hR.range g; omega)⟩, hr⟩, bk_betw h.bx hb (by omega), h.o1, h.o2, h.o3, h.o4, h.o5, h.rl, e0, e1, hz, h.mfb hb (fun b o e => by have := hne b o e; omega)⟩
/-- A register written. -/
theorem GU.reg (h : GU w X B a zs cap G lo m hi P x0 x1 ra ma rc mc pc rs D) : ∃ R off, ra = some ⟨R, off, none⟩ ∧ ∀ i, i < 16 → (∃ u, X.cell? ⟨R, off + i, none⟩ = some u) ∧ X.frozen? ⟨R, off + i, none⟩ = false ∧ ∀ v : Int, GU w (X.setCell ⟨R, off + i, none⟩ (.int .u32 v)) B a zs cap G lo m hi P x0 x1 ra ma rc mc pc (rs.set i v) D := by
  have k1 := h.ct.lo
  have k2 := h.o1
  have k3 := h.o2
  have k4 := h.o3
  have k5 := h.o4
  have k6 := h.o5
  have ht := h.ct.turn.size
  have hrl := h.rl
  obtain ⟨⟨R, hR⟩, hm⟩ := h.gs
  obtain ⟨hr1, hr2⟩ := hR.range (by omega)
  obtain ⟨off, e, _⟩ := hR.put 0 (by omega) 0
  refine ⟨R, off, e, fun i hi' => ?_⟩
  subst e
  obtain ⟨g1, g2, _, _⟩ := hR.put' i (by omega) 0
  refine ⟨g1, g2, fun v => ?_⟩
  obtain ⟨_, _, g3, g4⟩ := hR.put' i (by omega) v
  exact ⟨h.ct.far (g3.below (by omega) (by omega)), bk_betw h.wn g3 (by omega), ⟨⟨R, g4⟩, hm.betw g3 (.inr (by omega))⟩, bk_betw h.bx g3 (by omega), h.o1, h.o2, h.o3, h.o4, h.o5, by simp [hrl], h.d0, h.d1, h.b8, h.mfb g3 (fun b o e => by have := h.rng b o e; omega)⟩
theorem GU.seg (h : GU w X B a zs cap G lo m hi P x0 x1 ra ma rc mc pc rs D) : ASeg X (some ⟨G, 0, none⟩) [x0, x1] := fun _ => by
  refine ⟨G, 0, rfl, h.wn.lt, fun i hi => ?_⟩
  have hi' : i = 0 ∨ i = 1 := by simp at hi; omega
  rcases hi' with rfl | rfl
  · exact ⟨h.wn.cell 0 _ rfl, h.wn.cell 1 _ rfl, h.wn.cell 2 _ rfl⟩
  · exact ⟨h.wn.cell 3 _ rfl, h.wn.cell 4 _ rfl, h.wn.cell 5 _ rfl⟩
theorem seg_betw {k : IntKind} {w w' : World} {lo hi : Nat} {a : Option Addr} {zs : List Int} (h : Seg k w a zs) (hb : Betw lo hi w w') (hf : ∀ b off, a = some ⟨b, off, none⟩ → 0 < zs.length → b < lo ∨ hi ≤ b) : Seg k w' a zs := fun h0 => by
  obtain ⟨b, off, e, hlt, hc⟩ := h h0
  exact ⟨b, off, e, Nat.lt_of_lt_of_le hlt hb.size, fun i hi' => (hb.cell (p := ⟨b, off + i, none⟩) hlt (hf b off e h0)).trans (hc i hi')⟩
theorem wf_u8 {x : Int} (h : 0 ≤ x ∧ x < 256) : (Lit.int .u8 x).wf = true := by
  have h1 : IntKind.u8.min = 0 := by decide
  have h2 : IntKind.u8.max = 255 := by decide
  simp only [Lit.wf, Bool.and_eq_true, decide_eq_true_eq, h1, h2]
  omega
/-- The windows of a drawn guest are right. -/
theorem wins_ok (p k : Int) (hp : 1 ≤ p ∧ p ≤ 7) (hk : 0 ≤ k ∧ k < 4) : WsOk [(64, 128, p), (192 + 4 * k, 64, 3)] := by
  refine ⟨by simp, fun i hi => ?_⟩
  have hi' : i = 0 ∨ i = 1 := by simp at hi; omega
  have w0 : WOk (64, 128, p) := ⟨by show (0 : Int) ≤ 64; decide, by show (4 : Int) ≤ 128; decide, by show (64 : Int) % 4 = 0; decide, by show (128 : Int) % 4 = 0; decide, by show (64 : Int) + 128 ≤ 2048; decide, hp.1, hp.2⟩
  have w1 : WOk (192 + 4 * k, 64, 3) := ⟨by show 0 ≤ 192 + 4 * k; omega, by show (4 : Int) ≤ 64; decide, by show (192 + 4 * k) % 4 = 0; omega, by show (64 : Int) % 4 = 0; decide, by show 192 + 4 * k + 64 ≤ 2048; omega, by show (1 : Int) ≤ 3; decide, by show (3 : Int) ≤ 7; decide⟩
  rcases hi' with rfl | rfl
  · exact ⟨w0, fun k hk => absurd hk (by omega)⟩
  · refine ⟨w1, fun j hj => ?_⟩
    obtain rfl : j = 0 := by omega
    exact ⟨w0, w1, .inl (by show 64 + 128 ≤ 192 + 4 * k; omega)⟩
theorem putRow_u8 {row : List Int} {fr S : Nat} {x : Int} (hx : 0 ≤ x ∧ x ≤ 4294967295) (h : ∀ z ∈ row, (Lit.int .u8 z).wf = true) : ∀ z ∈ putRow row fr S x, (Lit.int .u8 z).wf = true := by
  have hb : ∀ k, (Lit.int .u8 ((Wd.bytes x).getD k 0)).wf = true := fun k => by
    have : 0 ≤ (Wd.bytes x).getD k 0 ∧ (Wd.bytes x).getD k 0 < 256 := by
      unfold Wd.bytes
      match k with
      | 0 => simp; omega
      | 1 => simp; omega
      | 2 => simp; omega
      | 3 => simp; omega
      | k + 4 => simp
    exact wf_u8 this
  unfold putRow
  induction S with
  | zero => exact h
  | succ S ih =>
    intro z hz
    simp only [putN] at hz
    rcases List.mem_or_eq_of_mem_set hz with h1 | h1
    · exact ih z h1
    · rw [h1]; exact hb _
end Iy
end Go.Proofs.Ytanffdedignegaa
namespace Go.Proofs.Ytanffdedignegaa
open Go.ChangeShapes Go.WideShapes Go.ChangeAt Go.RowKit Go.Deep
set_option linter.unusedVariables false
namespace Iy

/-- A guest that is being drawn, and the answer's room. -/
structure GV (w X : World) (B : Nat) (a : Option Addr) (zs : List Int) (cap : Nat) (G lo m hi P : Nat) (x0 x1 : Wn) (ra ma : Option Addr) (rc mc : Nat) (pc : Int) (rs : List Int) (D : Nat → List Int) : Prop where
  gu : GU w X B a zs cap G lo m hi P x0 x1 ra ma rc mc pc rs D
  r3 : Bk X w.heap.size #[.slice none 0 0, .int .u32 0, .slice none 0 0]
  o0 : w.heap.size < G
variable {w X Y : World} {B : Nat} {a : Option Addr} {zs : List Int} {cap : Nat} {G lo m hi P : Nat} {x0 x1 : Wn} {ra ma : Option Addr} {rc mc : Nat} {pc : Int} {rs : List Int} {D : Nat → List Int}
theorem GV.turn (h : GV w X B a zs cap G lo m hi P x0 x1 ra ma rc mc pc rs D) (hc : Cur Y B a zs cap) (ht : Turn B X Y) : GV w Y B a zs cap G lo m hi P x0 x1 ra ma rc mc pc rs D :=
  ⟨h.gu.turn hc ht, h.r3.turn ht (by have := h.gu.ct.lo; omega), h.o0⟩
theorem GV.below (h : GV w X B a zs cap G lo m hi P x0 x1 ra ma rc mc pc rs D) (hb : Below X.heap.size X Y) : GV w Y B a zs cap G lo m hi P x0 x1 ra ma rc mc pc rs D := ⟨h.gu.below hb, h.r3.below hb, h.o0⟩
theorem GV.ram {D' : Nat → List Int} {bi : Nat} (h : GV w X B a zs cap G lo m hi P x0 x1 ra ma rc mc pc rs D) (hb : Betw bi (bi + 1) X Y) (h1 : m ≤ bi) (h2 : bi < hi) (hne : ∀ b o, ma = some ⟨b, o, none⟩ → b ≠ bi) (hr : BRows Y m hi ma 2 D') (e0 : (D' 0).length = 128) (e1 : (D' 1).length = 64) (hz : ∀ i, i < 2 → ∀ z ∈ D' i, (Lit.int .u8 z).wf = true) : GV w Y B a zs cap G lo m hi P x0 x1 ra ma rc mc pc rs D' :=
  ⟨h.gu.ram hb h1 h2 hne hr e0 e1 hz, bk_betw h.r3 hb (by have := h.o0; have := h.gu.o2; have := h.gu.o3; omega), h.o0⟩
theorem GV.reg (h : GV w X B a zs cap G lo m hi P x0 x1 ra ma rc mc pc rs D) : ∃ R off, ra = some ⟨R, off, none⟩ ∧ ∀ i, i < 16 → (∃ u, X.cell? ⟨R, off + i, none⟩ = some u) ∧ X.frozen? ⟨R, off + i, none⟩ = false ∧ ∀ v : Int, GV w (X.setCell ⟨R, off + i, none⟩ (.int .u32 v)) B a zs cap G lo m hi P x0 x1 ra ma rc mc pc (rs.set i v) D := by
  have hrl := h.gu.rl
  obtain ⟨R, off, e, hh⟩ := h.gu.reg
  have hR : w.heap.size ≠ R := by
    obtain ⟨⟨R', hR'⟩, _⟩ := h.gu.gs
    obtain ⟨off', e', h1, h2, _⟩ := hR' (by omega)
    rw [e] at e'
    injection e' with e'
    injection e' with e1
    have := h.o0
    have := h.gu.o2
    omega
  refine ⟨R, off, e, fun i hi' => ⟨(hh i hi').1, (hh i hi').2.1, fun v => ⟨(hh i hi').2.2 v, h.r3.other _ _ _ hR.symm, h.o0⟩⟩⟩
set_option maxHeartbeats 2000000 in
theorem put_word (p : Int) (i : Nat) (x : Int) (va : Option Addr) (ws : List Int) (h : GV w X B a zs cap G lo m hi P (64, 128, p) x1 ra ma rc mc pc rs D) (hok : WsOk [(64, 128, p), x1]) (hi' : i < 32) (hx : 0 ≤ x ∧ x ≤ 4294967295) (hs : Seg .u32 X va ws) (hf : ∀ b off, va = some ⟨b, off, none⟩ → 0 < ws.length → hi ≤ b) :
    Calls Try.prog 51 #[.slice (some ⟨G, 0, none⟩) 2 2, gst ra 16 rc pc ma 2 mc, .int .i64 (64 + 4 * (i : Int)), .int .i64 4, .int .u32 x] X fun e w' => e = .returned (.tuple #[]) ∧ ∃ D', GV w w' B a zs cap G lo m hi P (64, 128, p) x1 ra ma rc mc pc rs D' ∧ Seg .u32 w' va ws := by
  have hd0 := h.gu.d0
  obtain ⟨hr, hm⟩ := h.gu.gs
  obtain ⟨b2, o2, bi, oi, ci, rfl, hcl, hci, hne, hb1, hb2, hb3, hon, hput⟩ := brows_row hm 0 (by omega) (by omega)
  have hat : ∀ Z, Betw 0 0 X Z → Calls Try.prog 34 #[.slice (some ⟨G, 0, none⟩) 2 2, .int .i64 (64 + ((4 * i : Nat) : Int))] Z fun e w' => e = .returned (.int .i64 ((0 : Nat) : Int)) ∧ Below Z.heap.size Z w' := fun Z hZ =>
    spec_l07at (some ⟨G, 0, none⟩) 2 2 [(64, 128, p), x1] (64 + ((4 * i : Nat) : Int)) ((0 : Nat) : Int) Z (h.gu.seg.below (betw00 hZ)) rfl hok (.inr ⟨0, by omega, rfl, ⟨by show (64 : Int) ≤ _; omega, by show _ < (64 : Int) + 128; omega⟩, fun j hj => absurd hj (by omega)⟩)
  have e4 : (64 : Int) + 4 * (i : Int) = 64 + ((4 * i : Nat) : Int) := by omega
  rw [e4]
  have hG := h.gu.o2
  have ho3 := h.gu.o3
  refine (spec_put ra 2 2 16 rc 2 mc 0 (4 * i) 4 G 0 b2 o2 bi oi (D 0).length ci m hi pc 64 x (D 0) X hx.1 hx.2 hat (by have := h.gu.wn.cell 0 _ rfl; simpa using this) (by simpa using hcl) hon rfl (by omega) (by omega) (by omega) (by omega) (by omega) (by omega) (by omega) (by omega) hne (by omega)).mono ?_
  rintro e w' ⟨rfl, hbt, hon'⟩
  refine ⟨rfl, fun j => if j = 0 then putRow (D 0) (4 * i) 4 x else D j, h.ram hbt hb1 hb2 (fun b o e => by injection e with e; injection e with e1; omega) (hput w' _ (putRow_len _ _ _ _) hbt hon') (by simp [putRow_len, hd0]) (by simpa using h.gu.d1) (fun j hj => ?_), seg_betw hs hbt (fun b off e h0 => .inr (by have := hf b off e h0; omega))⟩
  by_cases c : j = 0
  · simp only [c, if_true]
    exact putRow_u8 hx (h.gu.b8 0 (by omega))
  · simp only [c, if_false]
    exact h.gu.b8 j hj
/-- What a draw of a guest answers. -/
def GDP (w : World) (B : Nat) (a : Option Addr) (zs : List Int) (cap : Nat) (e : Ending) (w' : World) : Prop :=
  ∃ (G lo m hi P : Nat) (p k : Int) (ra ma : Option Addr) (rc mc : Nat) (pc : Int) (rs : List Int) (D : Nat → List Int), e = .returned (.tuple #[.slice (some ⟨G, 0, none⟩) 2 2, gst ra 16 rc pc ma 2 mc]) ∧ GU w w' B a zs cap G lo m hi P (64, 128, p) (192 + 4 * k, 64, 3) ra ma rc mc pc rs D ∧ (1 ≤ p ∧ p ≤ 7) ∧ (0 ≤ k ∧ k < 4) ∧ 16 ≤ rc ∧ 2 ≤ mc
structure Rg9 (Pre Pst : World → Prop) (v37 : Value) (v38 : Value) (v39 : Value) (v40 : Value) (v41 : Value) (v42 : Value) (v44 : Value) (v45 : Value) (w' : World) (b0 b1 b2 b3 b4 b5 b6 b7 b8 b9 : Bool) (x37 x38 x39 x40 x41 x42 x43 x44 x45 x46 : Value) : Prop where
  pre : b9 = false → Pre w'
  pst : b9 = true → Pst w'
  f0 : b0 = true → x37 = v37
  c0 : b0 = true → True
  f1 : b1 = true → x38 = v38
  c1 : b1 = true → True
  f2 : b2 = true → x39 = v39
  c2 : b2 = true → True
  f3 : b3 = true → x40 = v40
  c3 : b3 = true → b2 = true ∧ True
  f4 : b4 = true → x41 = v41
  c4 : b4 = true → b3 = true ∧ True
  f5 : b5 = true → x42 = v42
  c5 : b5 = true → True
  f6 : b6 = true → x43 = v39
  c6 : b6 = true → True
  f7 : b7 = true → x44 = v44
  c7 : b7 = true → b5 = true ∧ b6 = true ∧ True
  f8 : b8 = true → x45 = v45
  c8 : b8 = true → b7 = true ∧ True
  f9 : b9 = true → True
  c9 : b9 = true → b0 = true ∧ b1 = true ∧ b4 = true ∧ b8 = true ∧ True
structure Rg13 (Pre Pst : World → Prop) (v51 : Value) (v52 : Value) (v53 : Value) (v54 : Value) (v56 : Value) (w' : World) (b0 b1 b2 b3 b4 b5 b6 : Bool) (x51 x52 x53 x54 x55 x56 : Value) : Prop where
  pre : b6 = false → Pre w'
  pst : b6 = true → Pst w'
  f0 : b0 = true → x51 = v51
  c0 : b0 = true → True
  f1 : b1 = true → x52 = v52
  c1 : b1 = true → b0 = true ∧ True
  f2 : b2 = true → x53 = v53
  c2 : b2 = true → True
  f3 : b3 = true → x54 = v54
  c3 : b3 = true → True
  f4 : b4 = true → ∃ y : Int, x55 = .int .u32 y ∧ 0 ≤ y ∧ y ≤ 4294967295
  c4 : b4 = true → b3 = true ∧ True
  f5 : b5 = true → x56 = v56
  c5 : b5 = true → b1 = true ∧ b2 = true ∧ True
  f6 : b6 = true → True
  c6 : b6 = true → b4 = true ∧ b5 = true ∧ True
structure Rg15 (Pre Pst : World → Prop) (v59 : Value) (v60 : Value) (v61 : Value) (v62 : Value) (v63 : Value) (v65 : Value) (v66 : Value) (v70 : Value) (w' : World) (b0 b1 b2 b3 b4 b5 b6 b7 b8 b9 b10 b11 b12 : Bool) (x59 x60 x61 x62 x63 x64 x65 x66 x67 x68 x69 x70 : Value) : Prop where
  pre : b12 = false → Pre w'
  pst : b12 = true → Pst w'
  f0 : b0 = true → x59 = v59
  c0 : b0 = true → True
  f1 : b1 = true → x60 = v60
  c1 : b1 = true → b0 = true ∧ True
  f2 : b2 = true → x61 = v61
  c2 : b2 = true → True
  f3 : b3 = true → x62 = v62
  c3 : b3 = true → True
  f4 : b4 = true → x63 = v63
  c4 : b4 = true → b3 = true ∧ True
  f5 : b5 = true → x64 = v63
  c5 : b5 = true → b4 = true ∧ True
  f6 : b6 = true → x65 = v65
  c6 : b6 = true → b5 = true ∧ True
  f7 : b7 = true → x66 = v66
  c7 : b7 = true → True
  f8 : b8 = true → ∃ y : Int, x67 = .int .i64 y ∧ 0 ≤ y ∧ y ≤ 63
  c8 : b8 = true → b7 = true ∧ True
  f9 : b9 = true → ∃ y : Int, x68 = .int .i64 y ∧ 0 ≤ y ∧ y ≤ 1000
  c9 : b9 = true → b6 = true ∧ b8 = true ∧ True
  f10 : b10 = true → ∃ y : Int, x69 = .int .u32 y ∧ 0 ≤ y ∧ y ≤ 4294967295
  c10 : b10 = true → b9 = true ∧ True
  f11 : b11 = true → x70 = v70
  c11 : b11 = true → b1 = true ∧ b2 = true ∧ True
  f12 : b12 = true → True
  c12 : b12 = true → b10 = true ∧ b11 = true ∧ True
structure Rg16 (Pre Pst : World → Prop) (v71 : Value) (v72 : Value) (w' : World) (b0 b1 b2 b3 : Bool) (x71 x72 x2 : Value) : Prop where
  pre : b3 = false → Pre w'
  pst : b3 = true → Pst w'
  f0 : b0 = true → x71 = v71
  c0 : b0 = true → True
  f1 : b1 = true → x72 = v72
  c1 : b1 = true → True
  f2 : b2 = true → x2 = v71
  c2 : b2 = true → b0 = true ∧ True
  f3 : b3 = true → True
  c3 : b3 = true → b1 = true ∧ True
set_option maxRecDepth 20000 in
set_option maxHeartbeats 16000000 in
theorem draw_guest (w : World) (B : Nat) (a : Option Addr) (zs : List Int) (cap : Nat) (hc : Cur w B a zs cap) :
    Calls Try.prog 29 #[.pointer (some ⟨B, 0, none⟩)] w (GDP w B a zs cap) := by
  have hlo := hc.lt
  have HC0 : Hid (CT w (w.alloc (.cells #[.slice none 0 0, .int .u32 0, .slice none 0 0] 29)) B a zs cap) := (CT.start hc).alloc _
  have HR0 : Hid (Bk (w.alloc (.cells #[.slice none 0 0, .int .u32 0, .slice none 0 0] 29)) w.heap.size #[.slice none 0 0, .int .u32 0, .slice none 0 0]) := Bk.new _ _ _ _ rfl
  clear hc
  go_enter Try.func29, Try.ntmps29
  go_wp2_with fail
  revert HC0 HR0
  generalize (w.alloc (.cells #[.slice none 0 0, .int .u32 0, .slice none 0 0] 29)) = w0
  intro HC0 HR0
  refine (draw_below _ B _ _ _ 4 HC0.out.cur (by omega) (by omega)).mono ?_
  rintro e w1 ⟨k, rfl, hk0, hk1, hc1, ht1⟩
  obtain ⟨G, hG⟩ : ∃ g, w1.heap.size = g := ⟨_, rfl⟩
  have hz0 := HR0.out.lt
  have hz1 := ht1.size
  have HC1 : Hid (CT w (w1.alloc (.cells #[.int .i64 64, .int .i64 128, .int .i64 5, .int .i64 (192 + 4 * k), .int .i64 64, .int .i64 3] 40)) B a zs cap) := (HC0.out.step hc1 ht1).alloc _
  have HR1 : Hid (Bk (w1.alloc (.cells #[.int .i64 64, .int .i64 128, .int .i64 5, .int .i64 (192 + 4 * k), .int .i64 64, .int .i64 3] 40)) w.heap.size #[.slice none 0 0, .int .u32 0, .slice none 0 0]) := (HR0.out.turn ht1 (by omega)).below ((Below.refl _ _).alloc (Nat.le_refl _) _)
  have HW1 : Hid (Bk (w1.alloc (.cells #[.int .i64 64, .int .i64 128, .int .i64 5, .int .i64 (192 + 4 * k), .int .i64 64, .int .i64 3] 40)) G (wcl (64, 128, 5) (192 + 4 * k, 64, 3))) := Bk.new _ _ _ _ hG.symm
  have hGw : w.heap.size < G := by omega
  clear hc1 ht1 HC0 HR0 hz0 hz1
  go_wp2_with fail
  revert HC1 HR1 HW1
  generalize (w1.alloc (.cells #[.int .i64 64, .int .i64 128, .int .i64 5, .int .i64 (192 + 4 * k), .int .i64 64, .int .i64 3] 40)) = v1
  try rw [hG]
  clear hG
  intro HC1 HR1 HW1
  refine (draw_once _ B _ _ _ 3 HC1.out.cur (by omega) (by omega)).mono ?_
  rintro e w2 ⟨q2, rfl, hc2, ht2⟩
  have HC2 : Hid (CT w w2 B a zs cap) := HC1.out.step hc2 ht2
  have HR2 : Hid (Bk w2 w.heap.size #[.slice none 0 0, .int .u32 0, .slice none 0 0]) := HR1.out.turn ht2 (by omega)
  have HW2 : Hid (Bk w2 G (wcl (64, 128, 5) (192 + 4 * k, 64, 3))) := HW1.out.turn ht2 (by omega)
  clear hc2 ht2 HC1 HR1 HW1
  obtain ⟨p, hp, V2, HC3, HR3, HW3, hV2⟩ : ∃ (p : Int) (hp : 1 ≤ p ∧ p ≤ 7) (V2 : World), Hid (CT w V2 B a zs cap) ∧ Hid (Bk V2 w.heap.size #[.slice none 0 0, .int .u32 0, .slice none 0 0]) ∧ Hid (Bk V2 G (wcl (64, 128, p) (192 + 4 * k, 64, 3))) ∧ V2 = (if q2 = true then w2.setCell ⟨G, 2, none⟩ (.int .i64 7) else w2) := by
    cases q2
    · exact ⟨5, by omega, w2, HC2, HR2, HW2, by simp⟩
    · refine ⟨7, by omega, _, HC2.out.set G 2 (.int .i64 7) (by omega), HR2.out.other _ _ _ (by omega), HW2.out.set 2 (.int .i64 7) (by simp) rfl, by simp⟩
  have f2 := HW2.out.cell 2 _ rfl
  have ff := HW2.out.free
  cases q2
  all_goals
    simp only [reduceIte, Bool.false_eq_true] at hV2
    clear HC2 HR2 HW2
    go_wp2_with fail
    rw [← hV2]
    clear hV2 f2 ff
    refine (draw_below _ B _ _ _ 4 HC3.out.cur (by omega) (by omega)).mono ?_
    rintro e w3 ⟨y3, rfl, hy3, hz3, hc3, ht3⟩
    have HC4 : Hid (CT w w3 B a zs cap) := HC3.out.step hc3 ht3
    have HR4 : Hid (Bk w3 w.heap.size #[.slice none 0 0, .int .u32 0, .slice none 0 0]) := HR3.out.turn ht3 (by omega)
    have HW4 : Hid (Bk w3 G (wcl (64, 128, p) (192 + 4 * k, 64, 3))) := HW3.out.turn ht3 (by omega)
    clear hc3 ht3 HC3 HR3 HW3
    have HOK : Hid (WsOk [(64, 128, p), (192 + 4 * k, 64, 3)]) := wins_ok p k hp ⟨hk0, hk1⟩
    have HSG : Hid (ASeg w3 (some ⟨G, 0, none⟩) [(64, 128, p), (192 + 4 * k, 64, 3)]) := fun _ => by
      refine ⟨G, 0, rfl, HW4.out.lt, fun i hi => ?_⟩
      have hi' : i = 0 ∨ i = 1 := by simp at hi; omega
      rcases hi' with rfl | rfl
      · exact ⟨HW4.out.cell 0 _ rfl, HW4.out.cell 1 _ rfl, HW4.out.cell 2 _ rfl⟩
      · exact ⟨HW4.out.cell 3 _ rfl, HW4.out.cell 4 _ rfl, HW4.out.cell 5 _ rfl⟩
    have HFT : Hid (Fit [(64, 128, p), (192 + 4 * k, 64, 3)]) := fun i hi => by
      have hi' : i = 0 ∨ i = 1 := by simp at hi; omega
      rcases hi' with rfl | rfl
      · show (128 : Int) ≤ _; omega
      · show (64 : Int) ≤ _; omega
    go_wp2_with fail
    refine (spec_newO _ 2 2 _ [(64, 128, p), (192 + 4 * k, 64, 3)] w3 HSG.out HFT.out rfl (by omega) (by omega) HOK.out).mono ?_
    rintro e w4 ⟨ra, ma, rc, mc, m, rfl, hb4, hog, hm1, hm2, hrc, hmc, hmf⟩
    obtain ⟨pc, HPC⟩ : ∃ pc, Hid ((64 + 4 * y3) % 4294967296 = pc) := ⟨_, rfl⟩
    rw [HPC.out]
    clear HPC HSG HFT
    obtain ⟨P, hP⟩ : ∃ x, w4.heap.size = x := ⟨_, rfl⟩
    obtain ⟨hi, hhi⟩ : ∃ x, x = w4.heap.size := ⟨_, rfl⟩
    have hal : Below w4.heap.size w4 (w4.alloc (.cells #[.slice ra 16 rc, .int .u32 pc, .slice ma 2 mc] 29)) := (Below.refl _ _).alloc (Nat.le_refl _) _
    have HG5 : Hid (GV w (w4.alloc (.cells #[.slice ra 16 rc, .int .u32 pc, .slice ma 2 mc] 29)) B a zs cap G w3.heap.size m hi P (64, 128, p) (192 + 4 * k, 64, 3) ra ma rc mc pc regs0 (rows0 [(64, 128, p), (192 + 4 * k, 64, 3)])) := by
      subst hhi
      have hx := hb4.trans (hal.mono hb4.size)
      refine ⟨⟨HC4.out.below hx, HW4.out.below hx, hog.below hal, Bk.new _ _ _ _ hP.symm, by omega, HW4.out.lt, hm1, hm2, by omega, by simp [regs0], by simp [rows0], by simp [rows0], fun i hi z hz => ?_, fun b o e j => ?_⟩, HR4.out.below hx, hGw⟩
      rotate_left
      · obtain ⟨_, Bb, off, A, C, R, h1, h2⟩ := hog
        obtain ⟨e1, g1, g2, g3⟩ := h1 (by omega)
        rw [e] at e1
        injection e1 with e1
        injection e1 with e1
        subst e1
        exact (hal.frozen (p := ⟨b, j, none⟩) g3).trans (hmf b o e j)
      have : z = 0 := by simp only [rows0] at hz; exact List.eq_of_mem_replicate hz
      rw [this]; exact wf_u8 (by omega)
    have HPK : Hid ((1 ≤ p ∧ p ≤ 7) ∧ (0 ≤ k ∧ k < 4) ∧ 16 ≤ rc ∧ 2 ≤ mc) := ⟨hp, ⟨hk0, hk1⟩, hrc, hmc⟩
    clear hb4 hog hm1 hm2 hrc hmc hmf hal HC4 HR4 HW4 hhi
    have e3 := HG5.out.gu.wn.cell 3 _ rfl
    go_wp2_with fail
    clear e3
    revert HG5
    generalize (w4.alloc (.cells #[.slice ra 16 rc, .int .u32 pc, .slice ma 2 mc] 29)) = v5
    generalize (rows0 [(64, 128, p), (192 + 4 * k, 64, 3)]) = D0
    try rw [hP]
    generalize w3.heap.size = lo
    clear hP
    intro HG5
    refine (draw_src _ B _ _ _ 32 _ HG5.out.gu.ct.cur (by omega) ⟨by omega, by omega⟩).mono ?_
    rintro e w6 ⟨v6, ws, rfl, hwl, hwr, hdw⟩
    obtain ⟨vb, vc, rfl, hvc⟩ := hdw.own.shape hdw.nv hwl
    obtain ⟨vo, hvo⟩ : ∃ x, x = 0 := ⟨0, rfl⟩
    have HG6 : Hid (GV w w6 B a zs cap G lo m hi P (64, 128, p) (192 + 4 * k, 64, 3) ra ma rc mc pc regs0 D0) := HG5.out.turn hdw.ct.cur hdw.ct.turn
    have HS6 : Hid (Seg .u32 w6 (some ⟨vb, vo, none⟩) ws) := by
      obtain ⟨a', c', e, hs⟩ := hdw.own.seg
      injection e with e1 e2 e3
      rw [hvo, e1]; exact hs
    have HVB : Hid (hi ≤ vb) := by
      have h1 := (hdw.own.lt vb rfl).1
      have h2 := HG5.out.gu.bx.lt
      have h3 := HG5.out.gu.o5
      show hi ≤ vb
      omega
    have HWL : Hid (ws.length = 32) := hwl
    have HWR : Hid (∀ x ∈ ws, 0 ≤ x ∧ x ≤ 4294967295) := hwr
    rw [show (⟨vb, 0, none⟩ : Addr) = ⟨vb, vo, none⟩ by rw [hvo]]
    clear hwl hwr hdw hvc hvo HG5
    go_wp2
    go_loopw [7] (fun i wr => ∃ j : Nat, j ≤ 32 ∧ i = .int .i64 j ∧ Hid (∃ D, GV w wr B a zs cap G lo m hi P (64, 128, p) (192 + 4 * k, 64, 3) ra ma rc mc pc regs0 D ∧ Seg .u32 wr (some ⟨vb, vo, none⟩) ws)) (fun i _ => 32 - (intOf i).toNat)
    case atStart => exact ⟨0, by omega, rfl, D0, HG6.out, HS6.out⟩
    case round =>
      obtain ⟨i, hi32, rfl, HR⟩ := hrel
      clear HG6 HS6
      by_cases hin : i < 32
      · have hin' : (i : Int) < 32 := by omega
        obtain ⟨rs, hrs⟩ : ∃ r, r = regs0 := ⟨_, rfl⟩
        rw [← hrs] at HR
        rw [← hrs]
        clear hrs
        obtain ⟨D, hgv, hsw⟩ := HR.out
        have HGV : Hid (GV w wr B a zs cap G lo m hi P (64, 128, p) (192 + 4 * k, 64, 3) ra ma rc mc pc rs D) := hgv
        obtain ⟨x, HX⟩ : ∃ x, Hid (ws.getD i 0 = x) := ⟨_, rfl⟩
        have HXC : Hid (∀ X, Below wr.heap.size wr X → X.cell? ⟨vb, vo + i, none⟩ = some (.int .u32 x)) := fun X hX => by
          obtain ⟨b', o', e, hlt, hcc⟩ := hsw.below hX (by rw [HWL.out]; omega)
          injection e with e
          injection e with e1 e2
          have := hcc i (by rw [HWL.out]; exact hin)
          rw [HX.out, ← e1, ← e2] at this
          exact this
        have hxr : 0 ≤ x ∧ x ≤ 4294967295 := by
          rw [← HX.out]
          refine HWR.out _ ?_
          have hl : i < ws.length := by rw [HWL.out]; exact hin
          simp [List.getD, hl]
        have HPW : Hid (∀ X, Below wr.heap.size wr X → Calls Try.prog 51 #[.slice (some ⟨G, 0, none⟩) 2 2, gst ra 16 rc pc ma 2 mc, .int .i64 (64 + 4 * (i : Int)), .int .i64 4, .int .u32 x] X fun e w' => e = .returned (.tuple #[]) ∧ ∃ D', GV w w' B a zs cap G lo m hi P (64, 128, p) (192 + 4 * k, 64, 3) ra ma rc mc pc rs D' ∧ Seg .u32 w' (some ⟨vb, vo, none⟩) ws) := fun X hX =>
          put_word p i x _ ws (HGV.out.below hX) HOK.out hin hxr (hsw.below hX) (fun b off e _ => by injection e with e; injection e with e1; have := HVB.out; omega)
        have hPRE0 : Below wr.heap.size wr wr.drew := (Below.refl _ _).drew
        clear HR hgv hsw HX hxr HVB HWL HWR HOK HPK
        go_wp2
        refine wp_region_inv (by kernel_rfl) (by kernel_rfl) (fun A ℓ a' w' => ∃ (x37 x38 x39 x40 x41 x42 x43 x44 x45 x46 : Value), a' = ((((((((((A.put (some 37) x37).put (some 38) x38).put (some 39) x39).put (some 40) x40).put (some 41) x41).put (some 42) x42).put (some 43) x43).put (some 44) x44).put (some 45) x45).put (some 46) x46) ∧ Rg9 (fun w' => Below wr.heap.size wr w') (fun w' => ∃ D', GV w w' B a zs cap G lo m hi P (64, 128, p) (192 + 4 * k, 64, 3) ra ma rc mc pc rs D' ∧ Seg .u32 w' (some ⟨vb, vo, none⟩) ws) (.slice (some ⟨G, 0, none⟩) 2 2) (gst ra 16 rc pc ma 2 mc) (.int .i64 (i : Int)) (.int .i64 (4 * (i : Int))) (.int .i64 (64 + 4 * (i : Int))) (.slice (some ⟨vb, vo, none⟩) 32 vc) (.pointer (some ⟨vb, vo + i, none⟩)) (.int .u32 x) w' (ℓ 0) (ℓ 1) (ℓ 2) (ℓ 3) (ℓ 4) (ℓ 5) (ℓ 6) (ℓ 7) (ℓ 8) (ℓ 9) x37 x38 x39 x40 x41 x42 x43 x44 x45 x46) ?_ ?_ ?_ ?_
        · exact ⟨u37, u38, u39, u40, u41, u42, u43, u44, u45, u46, (by simp only [Act.put, List.setIfInBounds_toArray, List.set_cons_zero, List.set_cons_succ]), ⟨fun _ => hPRE0, (fun g => by cases g), (fun g => by cases g), (fun g => by cases g), (fun g => by cases g), (fun g => by cases g), (fun g => by cases g), (fun g => by cases g), (fun g => by cases g), (fun g => by cases g), (fun g => by cases g), (fun g => by cases g), (fun g => by cases g), (fun g => by cases g), (fun g => by cases g), (fun g => by cases g), (fun g => by cases g), (fun g => by cases g), (fun g => by cases g), (fun g => by cases g), (fun g => by cases g), (fun g => by cases g)⟩⟩
        · intro ℓ a' w' hI hall
          obtain ⟨x37, x38, x39, x40, x41, x42, x43, x44, x45, x46, rfl, hr⟩ := hI
          have hall' : ∀ i, i < 10 → ℓ i = true := hall
          obtain rfl := hr.f0 (hall' 0 (by decide))
          obtain rfl := hr.f1 (hall' 1 (by decide))
          obtain rfl := hr.f2 (hall' 2 (by decide))
          obtain rfl := hr.f3 (hall' 3 (by decide))
          obtain rfl := hr.f4 (hall' 4 (by decide))
          obtain rfl := hr.f5 (hall' 5 (by decide))
          obtain rfl := hr.f6 (hall' 6 (by decide))
          obtain rfl := hr.f7 (hall' 7 (by decide))
          obtain rfl := hr.f8 (hall' 8 (by decide))
          have HPST := hr.pst (hall' 9 (by decide))
          clear hall hall' hr
          simp only [Act.put, List.setIfInBounds_toArray, List.set_cons_zero, List.set_cons_succ]
          obtain ⟨D', hg2, hs2⟩ := HPST
          have HN : Hid (∃ D', GV w w' B a zs cap G lo m hi P (64, 128, p) (192 + 4 * k, 64, 3) ra ma rc mc pc rs D' ∧ Seg .u32 w' (some ⟨vb, vo, none⟩) ws) := ⟨D', hg2, hs2⟩
          clear hg2 hs2
          go_wp2
          go_roundw
          case rel => exact ⟨i + 1, by omega, by go_num, HN⟩
          case measure => simp [intOf]; omega
        · intro ℓ a' w' i o hI ho hi hL hdep K hK
          obtain ⟨x37, x38, x39, x40, x41, x42, x43, x44, x45, x46, rfl, hr⟩ := hI
          have hi7 : i < 10 := hi
          have hcs : i = 0 ∨ i = 1 ∨ i = 2 ∨ i = 3 ∨ i = 4 ∨ i = 5 ∨ i = 6 ∨ i = 7 ∨ i = 8 ∨ i = 9 := by omega
          clear hi hi7
          rcases hcs with rfl | rfl | rfl | rfl | rfl | rfl | rfl | rfl | rfl | rfl
          · obtain rfl := Option.some.inj ho
            clear hdep ho
            revert hK
            intro hK
            rw [if_pos (by rfl)]
            try simp only [Act.put, List.setIfInBounds_toArray, List.set_cons_zero, List.set_cons_succ]
            go_simp
            exact hK.out _ _ (fun j => if j = 0 then true else ℓ j) ⟨.slice (some ⟨G, 0, none⟩) 2 2, x38, x39, x40, x41, x42, x43, x44, x45, x46, (by simp only [Act.put, List.setIfInBounds_toArray, List.set_cons_zero, List.set_cons_succ]), ⟨hr.pre, hr.pst, (fun _ => rfl), (fun _ => trivial), hr.f1, hr.c1, hr.f2, hr.c2, hr.f3, hr.c3, hr.f4, hr.c4, hr.f5, hr.c5, hr.f6, hr.c6, hr.f7, hr.c7, hr.f8, hr.c8, hr.f9, (fun z => ⟨rfl, (hr.c9 z).2.1, (hr.c9 z).2.2.1, (hr.c9 z).2.2.2.1, trivial⟩)⟩⟩ (if_pos rfl) (fun j hj => if_neg hj)
          · obtain rfl := Option.some.inj ho
            clear hdep ho
            have hl : ℓ 9 = false := by
              cases h7 : ℓ 9
              · rfl
              · have := (hr.c9 h7).2.1; rw [this] at hL; cases hL
            have hp := hr.pre hl
            revert hK
            have kq := (HGV.out.below hp).gu.bx
            have q0 := kq.cell 0 _ rfl
            have q1 := kq.cell 1 _ rfl
            have q2 := kq.cell 2 _ rfl
            clear kq
            intro hK
            rw [if_pos (by rfl)]
            try simp only [Act.put, List.setIfInBounds_toArray, List.set_cons_zero, List.set_cons_succ]
            go_simp
            exact hK.out _ _ (fun j => if j = 1 then true else ℓ j) ⟨x37, gst ra 16 rc pc ma 2 mc, x39, x40, x41, x42, x43, x44, x45, x46, (by simp only [Act.put, List.setIfInBounds_toArray, List.set_cons_zero, List.set_cons_succ]), ⟨hr.pre, hr.pst, hr.f0, hr.c0, (fun _ => rfl), (fun _ => trivial), hr.f2, hr.c2, hr.f3, hr.c3, hr.f4, hr.c4, hr.f5, hr.c5, hr.f6, hr.c6, hr.f7, hr.c7, hr.f8, hr.c8, hr.f9, (fun z => ⟨(hr.c9 z).1, rfl, (hr.c9 z).2.2.1, (hr.c9 z).2.2.2.1, trivial⟩)⟩⟩ (if_pos rfl) (fun j hj => if_neg hj)
          · obtain rfl := Option.some.inj ho
            clear hdep ho
            revert hK
            intro hK
            rw [if_pos (by rfl)]
            try simp only [Act.put, List.setIfInBounds_toArray, List.set_cons_zero, List.set_cons_succ]
            go_simp
            exact hK.out _ _ (fun j => if j = 2 then true else ℓ j) ⟨x37, x38, .int .i64 (i : Int), x40, x41, x42, x43, x44, x45, x46, (by simp only [Act.put, List.setIfInBounds_toArray, List.set_cons_zero, List.set_cons_succ]), ⟨hr.pre, hr.pst, hr.f0, hr.c0, hr.f1, hr.c1, (fun _ => rfl), (fun _ => trivial), hr.f3, (fun z => ⟨rfl, trivial⟩), hr.f4, hr.c4, hr.f5, hr.c5, hr.f6, hr.c6, hr.f7, hr.c7, hr.f8, hr.c8, hr.f9, hr.c9⟩⟩ (if_pos rfl) (fun j hj => if_neg hj)
          · obtain rfl := Option.some.inj ho
            have g2 : ℓ 2 = true := hdep { on := 2, ground := Ground.data } (by simp) rfl
            clear hdep ho
            revert hK
            obtain rfl := hr.f2 g2
            have ew := wrap_s (x := 4 * (i : Int)) (by omega)
            intro hK
            rw [if_pos (by rfl)]
            try simp only [Act.put, List.setIfInBounds_toArray, List.set_cons_zero, List.set_cons_succ]
            go_simp
            exact hK.out _ _ (fun j => if j = 3 then true else ℓ j) ⟨x37, x38, .int .i64 (i : Int), .int .i64 (4 * (i : Int)), x41, x42, x43, x44, x45, x46, (by simp only [Act.put, List.setIfInBounds_toArray, List.set_cons_zero, List.set_cons_succ]), ⟨hr.pre, hr.pst, hr.f0, hr.c0, hr.f1, hr.c1, hr.f2, hr.c2, (fun _ => rfl), (fun _ => ⟨g2, trivial⟩), hr.f4, (fun z => ⟨rfl, trivial⟩), hr.f5, hr.c5, hr.f6, hr.c6, hr.f7, hr.c7, hr.f8, hr.c8, hr.f9, hr.c9⟩⟩ (if_pos rfl) (fun j hj => if_neg hj)
          · obtain rfl := Option.some.inj ho
            have g3 : ℓ 3 = true := hdep { on := 3, ground := Ground.data } (by simp) rfl
            clear hdep ho
            revert hK
            obtain rfl := hr.f3 g3
            have ew := wrap_s (x := 64 + 4 * (i : Int)) (by omega)
            intro hK
            rw [if_pos (by rfl)]
            try simp only [Act.put, List.setIfInBounds_toArray, List.set_cons_zero, List.set_cons_succ]
            go_simp
            exact hK.out _ _ (fun j => if j = 4 then true else ℓ j) ⟨x37, x38, x39, .int .i64 (4 * (i : Int)), .int .i64 (64 + 4 * (i : Int)), x42, x43, x44, x45, x46, (by simp only [Act.put, List.setIfInBounds_toArray, List.set_cons_zero, List.set_cons_succ]), ⟨hr.pre, hr.pst, hr.f0, hr.c0, hr.f1, hr.c1, hr.f2, hr.c2, hr.f3, hr.c3, (fun _ => rfl), (fun _ => ⟨g3, trivial⟩), hr.f5, hr.c5, hr.f6, hr.c6, hr.f7, hr.c7, hr.f8, hr.c8, hr.f9, (fun z => ⟨(hr.c9 z).1, (hr.c9 z).2.1, rfl, (hr.c9 z).2.2.2.1, trivial⟩)⟩⟩ (if_pos rfl) (fun j hj => if_neg hj)
          · obtain rfl := Option.some.inj ho
            clear hdep ho
            revert hK
            intro hK
            rw [if_pos (by rfl)]
            try simp only [Act.put, List.setIfInBounds_toArray, List.set_cons_zero, List.set_cons_succ]
            go_simp
            exact hK.out _ _ (fun j => if j = 5 then true else ℓ j) ⟨x37, x38, x39, x40, x41, .slice (some ⟨vb, vo, none⟩) 32 vc, x43, x44, x45, x46, (by simp only [Act.put, List.setIfInBounds_toArray, List.set_cons_zero, List.set_cons_succ]), ⟨hr.pre, hr.pst, hr.f0, hr.c0, hr.f1, hr.c1, hr.f2, hr.c2, hr.f3, hr.c3, hr.f4, hr.c4, (fun _ => rfl), (fun _ => trivial), hr.f6, hr.c6, hr.f7, (fun z => ⟨rfl, (hr.c7 z).2.1, trivial⟩), hr.f8, hr.c8, hr.f9, hr.c9⟩⟩ (if_pos rfl) (fun j hj => if_neg hj)
          · obtain rfl := Option.some.inj ho
            clear hdep ho
            revert hK
            intro hK
            rw [if_pos (by rfl)]
            try simp only [Act.put, List.setIfInBounds_toArray, List.set_cons_zero, List.set_cons_succ]
            go_simp
            exact hK.out _ _ (fun j => if j = 6 then true else ℓ j) ⟨x37, x38, x39, x40, x41, x42, .int .i64 (i : Int), x44, x45, x46, (by simp only [Act.put, List.setIfInBounds_toArray, List.set_cons_zero, List.set_cons_succ]), ⟨hr.pre, hr.pst, hr.f0, hr.c0, hr.f1, hr.c1, hr.f2, hr.c2, hr.f3, hr.c3, hr.f4, hr.c4, hr.f5, hr.c5, (fun _ => rfl), (fun _ => trivial), hr.f7, (fun z => ⟨(hr.c7 z).1, rfl, trivial⟩), hr.f8, hr.c8, hr.f9, hr.c9⟩⟩ (if_pos rfl) (fun j hj => if_neg hj)
          · obtain rfl := Option.some.inj ho
            have g5 : ℓ 5 = true := hdep { on := 5, ground := Ground.data } (by simp) rfl
            have g6 : ℓ 6 = true := hdep { on := 6, ground := Ground.data } (by simp) rfl
            clear hdep ho
            revert hK
            obtain rfl := hr.f5 g5
            obtain rfl := hr.f6 g6
            intro hK
            rw [if_pos (by rfl)]
            try simp only [Act.put, List.setIfInBounds_toArray, List.set_cons_zero, List.set_cons_succ]
            go_simp
            exact hK.out _ _ (fun j => if j = 7 then true else ℓ j) ⟨x37, x38, x39, x40, x41, .slice (some ⟨vb, vo, none⟩) 32 vc, .int .i64 (i : Int), .pointer (some ⟨vb, vo + i, none⟩), x45, x46, (by simp only [Act.put, List.setIfInBounds_toArray, List.set_cons_zero, List.set_cons_succ]), ⟨hr.pre, hr.pst, hr.f0, hr.c0, hr.f1, hr.c1, hr.f2, hr.c2, hr.f3, hr.c3, hr.f4, hr.c4, hr.f5, hr.c5, hr.f6, hr.c6, (fun _ => rfl), (fun _ => ⟨g5, g6, trivial⟩), hr.f8, (fun z => ⟨rfl, trivial⟩), hr.f9, hr.c9⟩⟩ (if_pos rfl) (fun j hj => if_neg hj)
          · obtain rfl := Option.some.inj ho
            have g7 : ℓ 7 = true := hdep { on := 7, ground := Ground.data } (by simp) rfl
            clear hdep ho
            have hl : ℓ 9 = false := by
              cases h7 : ℓ 9
              · rfl
              · have := (hr.c9 h7).2.2.2.1; rw [this] at hL; cases hL
            have hp := hr.pre hl
            revert hK
            obtain rfl := hr.f7 g7
            have q0 := HXC.out _ hp
            intro hK
            rw [if_pos (by rfl)]
            try simp only [Act.put, List.setIfInBounds_toArray, List.set_cons_zero, List.set_cons_succ]
            go_simp
            exact hK.out _ _ (fun j => if j = 8 then true else ℓ j) ⟨x37, x38, x39, x40, x41, x42, x43, .pointer (some ⟨vb, vo + i, none⟩), .int .u32 x, x46, (by simp only [Act.put, List.setIfInBounds_toArray, List.set_cons_zero, List.set_cons_succ]), ⟨hr.pre, hr.pst, hr.f0, hr.c0, hr.f1, hr.c1, hr.f2, hr.c2, hr.f3, hr.c3, hr.f4, hr.c4, hr.f5, hr.c5, hr.f6, hr.c6, hr.f7, hr.c7, (fun _ => rfl), (fun _ => ⟨g7, trivial⟩), hr.f9, (fun z => ⟨(hr.c9 z).1, (hr.c9 z).2.1, (hr.c9 z).2.2.1, rfl, trivial⟩)⟩⟩ (if_pos rfl) (fun j hj => if_neg hj)
          · obtain rfl := Option.some.inj ho
            have g0 : ℓ 0 = true := hdep { on := 0, ground := Ground.data } (by simp) rfl
            have g1 : ℓ 1 = true := hdep { on := 1, ground := Ground.data } (by simp) rfl
            have g4 : ℓ 4 = true := hdep { on := 4, ground := Ground.data } (by simp) rfl
            have g8 : ℓ 8 = true := hdep { on := 8, ground := Ground.data } (by simp) rfl
            clear hdep ho
            have hp := hr.pre hL
            revert hK
            obtain rfl := hr.f0 g0
            obtain rfl := hr.f1 g1
            obtain rfl := hr.f4 g4
            obtain rfl := hr.f8 g8
            intro hK
            rw [if_pos (by rfl)]
            try simp only [Act.put, List.setIfInBounds_toArray, List.set_cons_zero, List.set_cons_succ]
            go_simp
            refine Calls.mono (HPW.out _ hp) ?_
            rintro e w9 ⟨rfl, hq⟩
            exact hK.out _ _ (fun j => if j = 9 then true else ℓ j) ⟨.slice (some ⟨G, 0, none⟩) 2 2, gst ra 16 rc pc ma 2 mc, x39, x40, .int .i64 (64 + 4 * (i : Int)), x42, x43, x44, .int .u32 x, .tuple #[], (by simp only [Act.put, List.setIfInBounds_toArray, List.set_cons_zero, List.set_cons_succ]), ⟨(fun z => by cases z), (fun _ => hq), hr.f0, hr.c0, hr.f1, hr.c1, hr.f2, hr.c2, hr.f3, hr.c3, hr.f4, hr.c4, hr.f5, hr.c5, hr.f6, hr.c6, hr.f7, hr.c7, hr.f8, hr.c8, (fun _ => trivial), (fun _ => ⟨g0, g1, g4, g8, trivial⟩)⟩⟩ (if_pos rfl) (fun j hj => if_neg hj)
        · rintro a' w' ℓ ℓ' hℓ hI
          rw [← show ℓ = ℓ' from funext hℓ]
          exact hI
      · have hin' : ¬ ((i : Int) < 32) := by omega
        obtain ⟨D, hgv, hsw⟩ := HR.out
        obtain ⟨R, off, hra, _⟩ := hgv.reg
        subst hra
        have HG7 : Hid (GV w wr B a zs cap G lo m hi P (64, 128, p) (192 + 4 * k, 64, 3) (some ⟨R, off, none⟩) ma rc mc pc regs0 D) := hgv
        clear HR hgv hsw HVB HWL HWR HOK
        go_wp2
        go_loopw [8] (fun i wq => ∃ j : Nat, 1 ≤ j ∧ j ≤ 8 ∧ i = .int .i64 j ∧ Hid (∃ rs, GV w wq B a zs cap G lo m hi P (64, 128, p) (192 + 4 * k, 64, 3) (some ⟨R, off, none⟩) ma rc mc pc rs D)) (fun i _ => 8 - (intOf i).toNat)
        case atStart => exact ⟨1, by omega, by omega, rfl, _, HG7.out⟩
        case round =>
          rename World => wq
          obtain ⟨i, hi1, hi8, rfl, HR⟩ := hrel
          clear HG7
          by_cases hin : i < 8
          rotate_left
          · have hin' : ¬ ((i : Int) < 8) := by omega
            obtain ⟨rsE, hge⟩ := HR.out
            have HGE : Hid (GV w wq B a zs cap G lo m hi P (64, 128, p) (192 + 4 * k, 64, 3) (some ⟨R, off, none⟩) ma rc mc pc rsE D) := hge
            have Hend : Hid (∀ X, Below wq.heap.size wq X → (GU w (((X.setCell ⟨w.heap.size, 0, none⟩ (.slice (some ⟨R, off, none⟩) 16 rc)).setCell ⟨w.heap.size, 1, none⟩ (.int .u32 pc)).setCell ⟨w.heap.size, 2, none⟩ (.slice ma 2 mc)) B a zs cap G lo m hi P (64, 128, p) (192 + 4 * k, 64, 3) (some ⟨R, off, none⟩) ma rc mc pc rsE D) ∧ Bk (((X.setCell ⟨w.heap.size, 0, none⟩ (.slice (some ⟨R, off, none⟩) 16 rc)).setCell ⟨w.heap.size, 1, none⟩ (.int .u32 pc)).setCell ⟨w.heap.size, 2, none⟩ (.slice ma 2 mc)) w.heap.size #[.slice (some ⟨R, off, none⟩) 16 rc, .int .u32 pc, .slice ma 2 mc]) := fun X hX => by
              have h := HGE.out.below hX
              have k1 := h.gu.ct.lo
              have k2 := h.o0
              have k3 := h.gu.o2
              have k4 := h.gu.o3
              have k5 := h.gu.o4
              have k6 := h.gu.o5
              have hbt : Betw w.heap.size (w.heap.size + 1) X (((X.setCell ⟨w.heap.size, 0, none⟩ (.slice (some ⟨R, off, none⟩) 16 rc)).setCell ⟨w.heap.size, 1, none⟩ (.int .u32 pc)).setCell ⟨w.heap.size, 2, none⟩ (.slice ma 2 mc)) := (((Betw.refl _ _ _).setCell (p := ⟨w.heap.size, 0, none⟩) (Nat.le_refl _) (Nat.lt_succ_self _) _).setCell (p := ⟨w.heap.size, 1, none⟩) (Nat.le_refl _) (Nat.lt_succ_self _) _).setCell (p := ⟨w.heap.size, 2, none⟩) (Nat.le_refl _) (Nat.lt_succ_self _) _
              refine ⟨⟨h.gu.ct.far (hbt.below (Nat.le_refl _) h.gu.ct.turn.size), bk_betw h.gu.wn hbt (by omega), h.gu.gs.betw hbt (.inr (by omega)) h.gu.o3 h.gu.o4, bk_betw h.gu.bx hbt (by omega), h.gu.o1, h.gu.o2, h.gu.o3, h.gu.o4, h.gu.o5, h.gu.rl, h.gu.d0, h.gu.d1, h.gu.b8, h.gu.mfb hbt (fun b o e => by have := h.gu.rng b o e; omega)⟩, ((h.r3.set 0 _ (by simp) rfl).set 1 _ (by simp) rfl).set 2 _ (by simp) rfl⟩
            have hPRE0 : Below wq.heap.size wq wq.drew := (Below.refl _ _).drew
            clear HR hge
            go_wp2
            refine wp_region_inv (by kernel_rfl) (by kernel_rfl) (fun A ℓ a' w' => ∃ (x71 x72 x2 : Value), a' = (((A.put (some 71) x71).put (some 72) x72).put (some 2) x2) ∧ Rg16 (fun w' => Below wq.heap.size wq w') (fun w' => (GU w w' B a zs cap G lo m hi P (64, 128, p) (192 + 4 * k, 64, 3) (some ⟨R, off, none⟩) ma rc mc pc rsE D) ∧ Bk w' w.heap.size #[.slice (some ⟨R, off, none⟩) 16 rc, .int .u32 pc, .slice ma 2 mc]) (.slice (some ⟨G, 0, none⟩) 2 2) (gst (some ⟨R, off, none⟩) 16 rc pc ma 2 mc) w' (ℓ 0) (ℓ 1) (ℓ 2) (ℓ 3) x71 x72 x2) ?_ ?_ ?_ ?_
            · exact ⟨undef, undef, (.slice none 0 0), (by simp only [Act.put, List.setIfInBounds_toArray, List.set_cons_zero, List.set_cons_succ]), ⟨fun _ => hPRE0, (fun g => by cases g), (fun g => by cases g), (fun g => by cases g), (fun g => by cases g), (fun g => by cases g), (fun g => by cases g), (fun g => by cases g), (fun g => by cases g), (fun g => by cases g)⟩⟩
            · intro ℓ a' w' hI hall
              obtain ⟨x71, x72, x2, rfl, hr⟩ := hI
              have hall' : ∀ i, i < 4 → ℓ i = true := hall
              obtain rfl := hr.f0 (hall' 0 (by decide))
              obtain rfl := hr.f1 (hall' 1 (by decide))
              obtain rfl := hr.f2 (hall' 2 (by decide))
              have HPST := hr.pst (hall' 3 (by decide))
              clear hall hall' hr
              simp only [Act.put, List.setIfInBounds_toArray, List.set_cons_zero, List.set_cons_succ]
              obtain ⟨hg, hb⟩ := HPST
              have n0 := hb.cell 0 _ rfl
              have n1 := hb.cell 1 _ rfl
              have n2 := hb.cell 2 _ rfl
              have HGF : Hid _ := hg
              clear hg hb
              go_wp2
              exact bodyPost_ret (v := .tuple #[.slice (some ⟨G, 0, none⟩) 2 2, gst (some ⟨R, off, none⟩) 16 rc pc ma 2 mc]) (by simp [results, Try.results29, go_sem, n0, n1, n2]) rfl ⟨_, _, _, _, _, _, _, _, _, _, _, _, _, _, rfl, HGF.out, HPK.out.1, HPK.out.2.1, HPK.out.2.2.1, HPK.out.2.2.2⟩
            · intro ℓ a' w' i o hI ho hi hL hdep K hK
              obtain ⟨x71, x72, x2, rfl, hr⟩ := hI
              have hi7 : i < 4 := hi
              have hcs : i = 0 ∨ i = 1 ∨ i = 2 ∨ i = 3 := by omega
              clear hi hi7
              rcases hcs with rfl | rfl | rfl | rfl
              · obtain rfl := Option.some.inj ho
                clear hdep ho
                revert hK
                intro hK
                rw [if_pos (by rfl)]
                try simp only [Act.put, List.setIfInBounds_toArray, List.set_cons_zero, List.set_cons_succ]
                go_simp
                exact hK.out _ _ (fun j => if j = 0 then true else ℓ j) ⟨.slice (some ⟨G, 0, none⟩) 2 2, x72, x2, (by simp only [Act.put, List.setIfInBounds_toArray, List.set_cons_zero, List.set_cons_succ]), ⟨hr.pre, hr.pst, (fun _ => rfl), (fun _ => trivial), hr.f1, hr.c1, hr.f2, (fun z => ⟨rfl, trivial⟩), hr.f3, hr.c3⟩⟩ (if_pos rfl) (fun j hj => if_neg hj)
              · obtain rfl := Option.some.inj ho
                clear hdep ho
                have hl : ℓ 3 = false := by
                  cases h7 : ℓ 3
                  · rfl
                  · have := (hr.c3 h7).1; rw [this] at hL; cases hL
                have hp := hr.pre hl
                revert hK
                have kq := (HGE.out.below hp).gu.bx
                have q0 := kq.cell 0 _ rfl
                have q1 := kq.cell 1 _ rfl
                have q2 := kq.cell 2 _ rfl
                clear kq
                intro hK
                rw [if_pos (by rfl)]
                try simp only [Act.put, List.setIfInBounds_toArray, List.set_cons_zero, List.set_cons_succ]
                go_simp
                exact hK.out _ _ (fun j => if j = 1 then true else ℓ j) ⟨x71, gst (some ⟨R, off, none⟩) 16 rc pc ma 2 mc, x2, (by simp only [Act.put, List.setIfInBounds_toArray, List.set_cons_zero, List.set_cons_succ]), ⟨hr.pre, hr.pst, hr.f0, hr.c0, (fun _ => rfl), (fun _ => trivial), hr.f2, hr.c2, hr.f3, (fun z => ⟨rfl, trivial⟩)⟩⟩ (if_pos rfl) (fun j hj => if_neg hj)
              · obtain rfl := Option.some.inj ho
                have g0 : ℓ 0 = true := hdep { on := 0, ground := Ground.data } (by simp) rfl
                clear hdep ho
                revert hK
                obtain rfl := hr.f0 g0
                intro hK
                rw [if_pos (by rfl)]
                try simp only [Act.put, List.setIfInBounds_toArray, List.set_cons_zero, List.set_cons_succ]
                go_simp
                exact hK.out _ _ (fun j => if j = 2 then true else ℓ j) ⟨.slice (some ⟨G, 0, none⟩) 2 2, x72, .slice (some ⟨G, 0, none⟩) 2 2, (by simp only [Act.put, List.setIfInBounds_toArray, List.set_cons_zero, List.set_cons_succ]), ⟨hr.pre, hr.pst, hr.f0, hr.c0, hr.f1, hr.c1, (fun _ => rfl), (fun _ => ⟨g0, trivial⟩), hr.f3, hr.c3⟩⟩ (if_pos rfl) (fun j hj => if_neg hj)
              · obtain rfl := Option.some.inj ho
                have g1 : ℓ 1 = true := hdep { on := 1, ground := Ground.data } (by simp) rfl
                clear hdep ho
                have hp := hr.pre hL
                revert hK
                obtain rfl := hr.f1 g1
                have kq := (HGE.out.below hp).r3
                have q0 := kq.cell 0 _ rfl
                have q1 := kq.cell 1 _ rfl
                have q2 := kq.cell 2 _ rfl
                have qf := kq.free
                have hq := Hend.out _ hp
                clear kq
                intro hK
                have HQq : Hid _ := hq
                clear hq hp
                rw [if_pos (by rfl)]
                try simp only [Act.put, List.setIfInBounds_toArray, List.set_cons_zero, List.set_cons_succ]
                go_simp
                exact hK.out _ _ (fun j => if j = 3 then true else ℓ j) ⟨x71, gst (some ⟨R, off, none⟩) 16 rc pc ma 2 mc, x2, (by simp only [Act.put, List.setIfInBounds_toArray, List.set_cons_zero, List.set_cons_succ]), ⟨(fun z => by cases z), (fun _ => HQq.out), hr.f0, hr.c0, hr.f1, hr.c1, hr.f2, hr.c2, (fun _ => trivial), (fun _ => ⟨g1, trivial⟩)⟩⟩ (if_pos rfl) (fun j hj => if_neg hj)
            · rintro a' w' ℓ ℓ' hℓ hI
              rw [← show ℓ = ℓ' from funext hℓ]
              exact hI
          have hin' : (i : Int) < 8 := by omega
          obtain ⟨rs, hgv⟩ := HR.out
          have hPRE0 : GV w wq.drew B a zs cap G lo m hi P (64, 128, p) (192 + 4 * k, 64, 3) (some ⟨R, off, none⟩) ma rc mc pc rs D := hgv.below (Below.refl _ _).drew
          have HDW : Hid (∀ X, GV w X B a zs cap G lo m hi P (64, 128, p) (192 + 4 * k, 64, 3) (some ⟨R, off, none⟩) ma rc mc pc rs D → Calls Try.prog 16 #[.pointer (some ⟨B, 0, none⟩)] X fun e w' => ∃ y : Int, e = .returned (.int .u32 y) ∧ 0 ≤ y ∧ y ≤ 4294967295 ∧ GV w w' B a zs cap G lo m hi P (64, 128, p) (192 + 4 * k, 64, 3) (some ⟨R, off, none⟩) ma rc mc pc rs D) := fun X h => (draw_word X B a zs cap h.gu.ct.cur).mono fun e w' ⟨y, h1, h2, h3, h4, h5⟩ => ⟨y, h1, h2, h3, h.turn h4 h5⟩
          have HDB : Hid (∀ rs2 X, GV w X B a zs cap G lo m hi P (64, 128, p) (192 + 4 * k, 64, 3) (some ⟨R, off, none⟩) ma rc mc pc rs2 D → Calls Try.prog 30 #[.pointer (some ⟨B, 0, none⟩), .int .i64 64] X fun e w' => ∃ y : Int, e = .returned (.int .i64 y) ∧ 0 ≤ y ∧ y ≤ 63 ∧ GV w w' B a zs cap G lo m hi P (64, 128, p) (192 + 4 * k, 64, 3) (some ⟨R, off, none⟩) ma rc mc pc rs2 D) := fun rs2 X h => (draw_below X B a zs cap 64 h.gu.ct.cur (by omega) (by omega)).mono fun e w' ⟨y, h1, h2, h3, h4, h5⟩ => ⟨y, h1, h2, by omega, h.turn h4 h5⟩
          have HST : Hid (∀ rs2 X, GV w X B a zs cap G lo m hi P (64, 128, p) (192 + 4 * k, 64, 3) (some ⟨R, off, none⟩) ma rc mc pc rs2 D → (∃ u, X.cell? ⟨R, off + i, none⟩ = some u) ∧ X.frozen? ⟨R, off + i, none⟩ = false ∧ ∀ v : Int, ∃ rs', GV w (X.setCell ⟨R, off + i, none⟩ (.int .u32 v)) B a zs cap G lo m hi P (64, 128, p) (192 + 4 * k, 64, 3) (some ⟨R, off, none⟩) ma rc mc pc rs' D) := fun rs2 X h => by
            obtain ⟨R', off', e', hh⟩ := h.reg
            injection e' with e'
            injection e' with e1 e2
            obtain ⟨h1, h2, h3⟩ := hh i (by omega)
            rw [← e1, ← e2] at h1 h2 h3
            exact ⟨h1, h2, fun v => ⟨_, h3 v⟩⟩
          clear HR hgv HPK
          go_wp2
          refine wp_region_inv (by kernel_rfl) (by kernel_rfl) (fun A ℓ a' w' => ∃ (x51 x52 x53 x54 x55 x56 : Value), a' = ((((((A.put (some 51) x51).put (some 52) x52).put (some 53) x53).put (some 54) x54).put (some 55) x55).put (some 56) x56) ∧ Rg13 (fun w' => GV w w' B a zs cap G lo m hi P (64, 128, p) (192 + 4 * k, 64, 3) (some ⟨R, off, none⟩) ma rc mc pc rs D) (fun w' => ∃ rs', GV w w' B a zs cap G lo m hi P (64, 128, p) (192 + 4 * k, 64, 3) (some ⟨R, off, none⟩) ma rc mc pc rs' D) (.pointer (some ⟨P, 0, none⟩)) (.slice (some ⟨R, off, none⟩) 16 rc) (.int .i64 (i : Int)) (.pointer (some ⟨B, 0, none⟩)) (.pointer (some ⟨R, off + i, none⟩)) w' (ℓ 0) (ℓ 1) (ℓ 2) (ℓ 3) (ℓ 4) (ℓ 5) (ℓ 6) x51 x52 x53 x54 x55 x56) ?_ ?_ ?_ ?_
          · exact ⟨u51, u52, u53, u54, u55, u56, (by simp only [Act.put, List.setIfInBounds_toArray, List.set_cons_zero, List.set_cons_succ]), ⟨fun _ => hPRE0, (fun g => by cases g), (fun g => by cases g), (fun g => by cases g), (fun g => by cases g), (fun g => by cases g), (fun g => by cases g), (fun g => by cases g), (fun g => by cases g), (fun g => by cases g), (fun g => by cases g), (fun g => by cases g), (fun g => by cases g), (fun g => by cases g), (fun g => by cases g), (fun g => by cases g)⟩⟩
          · intro ℓ a' w' hI hall
            obtain ⟨x51, x52, x53, x54, x55, x56, rfl, hr⟩ := hI
            have hall' : ∀ i, i < 7 → ℓ i = true := hall
            obtain rfl := hr.f0 (hall' 0 (by decide))
            obtain rfl := hr.f1 (hall' 1 (by decide))
            obtain rfl := hr.f2 (hall' 2 (by decide))
            obtain rfl := hr.f3 (hall' 3 (by decide))
            obtain ⟨yy4, rfl, hyy4, hzz4⟩ := hr.f4 (hall' 4 (by decide))
            obtain rfl := hr.f5 (hall' 5 (by decide))
            have HPST := hr.pst (hall' 6 (by decide))
            clear hall hall' hr
            simp only [Act.put, List.setIfInBounds_toArray, List.set_cons_zero, List.set_cons_succ]
            have HP13 : Hid (∃ rs', GV w w' B a zs cap G lo m hi P (64, 128, p) (192 + 4 * k, 64, 3) (some ⟨R, off, none⟩) ma rc mc pc rs' D) := HPST
            clear HPST
            go_wp2_with fail
            refine (draw_once _ B _ _ _ 2 (by obtain ⟨rs', h⟩ := HP13.out; exact h.gu.ct.cur) (by omega) (by omega)).mono ?_
            rintro e w14 ⟨q14, rfl, hc14, ht14⟩
            have HN : Hid (∃ rs', GV w w14 B a zs cap G lo m hi P (64, 128, p) (192 + 4 * k, 64, 3) (some ⟨R, off, none⟩) ma rc mc pc rs' D) := by
              obtain ⟨rs', h⟩ := HP13.out
              exact ⟨rs', h.turn hc14 ht14⟩
            clear HP13 hc14 ht14
            cases q14
            · go_wp2
              go_roundw
              case rel => first | exact ⟨i + 1, by omega, by omega, by go_num, HN⟩ | ((repeat (refine Exists.intro _ ?_)); exact ⟨⟨i + 1, by omega, by omega, by go_num, HN⟩, rfl⟩)
              case measure => simp [intOf]; omega
            · obtain ⟨rs2, hg2⟩ := HN.out
              have hPRE0 : GV w w14.drew B a zs cap G lo m hi P (64, 128, p) (192 + 4 * k, 64, 3) (some ⟨R, off, none⟩) ma rc mc pc rs2 D := hg2.below (Below.refl _ _).drew
              clear HN hg2
              go_wp2
              refine wp_region_inv (by kernel_rfl) (by kernel_rfl) (fun A ℓ a' w' => ∃ (x59 x60 x61 x62 x63 x64 x65 x66 x67 x68 x69 x70 : Value), a' = ((((((((((((A.put (some 59) x59).put (some 60) x60).put (some 61) x61).put (some 62) x62).put (some 63) x63).put (some 64) x64).put (some 65) x65).put (some 66) x66).put (some 67) x67).put (some 68) x68).put (some 69) x69).put (some 70) x70) ∧ Rg15 (fun w' => GV w w' B a zs cap G lo m hi P (64, 128, p) (192 + 4 * k, 64, 3) (some ⟨R, off, none⟩) ma rc mc pc rs2 D) (fun w' => ∃ rs', GV w w' B a zs cap G lo m hi P (64, 128, p) (192 + 4 * k, 64, 3) (some ⟨R, off, none⟩) ma rc mc pc rs' D) (.pointer (some ⟨P, 0, none⟩)) (.slice (some ⟨R, off, none⟩) 16 rc) (.int .i64 (i : Int)) (.slice (some ⟨G, 0, none⟩) 2 2) (.pointer (some ⟨G, 3, none⟩)) (.int .i64 (192 + 4 * k)) (.pointer (some ⟨B, 0, none⟩)) (.pointer (some ⟨R, off + i, none⟩)) w' (ℓ 0) (ℓ 1) (ℓ 2) (ℓ 3) (ℓ 4) (ℓ 5) (ℓ 6) (ℓ 7) (ℓ 8) (ℓ 9) (ℓ 10) (ℓ 11) (ℓ 12) x59 x60 x61 x62 x63 x64 x65 x66 x67 x68 x69 x70) ?_ ?_ ?_ ?_
              · exact ⟨u59, u60, u61, u62, u63, u64, u65, u66, u67, u68, u69, u70, (by simp only [Act.put, List.setIfInBounds_toArray, List.set_cons_zero, List.set_cons_succ]), ⟨fun _ => hPRE0, (fun g => by cases g), (fun g => by cases g), (fun g => by cases g), (fun g => by cases g), (fun g => by cases g), (fun g => by cases g), (fun g => by cases g), (fun g => by cases g), (fun g => by cases g), (fun g => by cases g), (fun g => by cases g), (fun g => by cases g), (fun g => by cases g), (fun g => by cases g), (fun g => by cases g), (fun g => by cases g), (fun g => by cases g), (fun g => by cases g), (fun g => by cases g), (fun g => by cases g), (fun g => by cases g), (fun g => by cases g), (fun g => by cases g), (fun g => by cases g), (fun g => by cases g), (fun g => by cases g), (fun g => by cases g)⟩⟩
              · intro ℓ a' w' hI hall
                obtain ⟨x59, x60, x61, x62, x63, x64, x65, x66, x67, x68, x69, x70, rfl, hr⟩ := hI
                have hall' : ∀ i, i < 13 → ℓ i = true := hall
                obtain rfl := hr.f0 (hall' 0 (by decide))
                obtain rfl := hr.f1 (hall' 1 (by decide))
                obtain rfl := hr.f2 (hall' 2 (by decide))
                obtain rfl := hr.f3 (hall' 3 (by decide))
                obtain rfl := hr.f4 (hall' 4 (by decide))
                obtain rfl := hr.f5 (hall' 5 (by decide))
                obtain rfl := hr.f6 (hall' 6 (by decide))
                obtain rfl := hr.f7 (hall' 7 (by decide))
                obtain ⟨yy8, rfl, hyy8, hzz8⟩ := hr.f8 (hall' 8 (by decide))
                obtain ⟨yy9, rfl, hyy9, hzz9⟩ := hr.f9 (hall' 9 (by decide))
                obtain ⟨yy10, rfl, hyy10, hzz10⟩ := hr.f10 (hall' 10 (by decide))
                obtain rfl := hr.f11 (hall' 11 (by decide))
                have HPST := hr.pst (hall' 12 (by decide))
                clear hall hall' hr
                simp only [Act.put, List.setIfInBounds_toArray, List.set_cons_zero, List.set_cons_succ]
                have HN : Hid (∃ rs', GV w w' B a zs cap G lo m hi P (64, 128, p) (192 + 4 * k, 64, 3) (some ⟨R, off, none⟩) ma rc mc pc rs' D) := HPST
                clear HPST
                go_wp2
                go_roundw
                case rel => first | exact ⟨i + 1, by omega, by omega, by go_num, HN⟩ | ((repeat (refine Exists.intro _ ?_)); exact ⟨⟨i + 1, by omega, by omega, by go_num, HN⟩, rfl⟩)
                case measure => simp [intOf]; omega
              · intro ℓ a' w' i o hI ho hi hL hdep K hK
                obtain ⟨x59, x60, x61, x62, x63, x64, x65, x66, x67, x68, x69, x70, rfl, hr⟩ := hI
                have hi7 : i < 13 := hi
                have hcs : i = 0 ∨ i = 1 ∨ i = 2 ∨ i = 3 ∨ i = 4 ∨ i = 5 ∨ i = 6 ∨ i = 7 ∨ i = 8 ∨ i = 9 ∨ i = 10 ∨ i = 11 ∨ i = 12 := by omega
                clear hi hi7
                rcases hcs with rfl | rfl | rfl | rfl | rfl | rfl | rfl | rfl | rfl | rfl | rfl | rfl | rfl
                · obtain rfl := Option.some.inj ho
                  clear hdep ho
                  revert hK
                  intro hK
                  rw [if_pos (by rfl)]
                  try simp only [Act.put, List.setIfInBounds_toArray, List.set_cons_zero, List.set_cons_succ]
                  go_simp
                  exact hK.out _ _ (fun j => if j = 0 then true else ℓ j) ⟨.pointer (some ⟨P, 0, none⟩), x60, x61, x62, x63, x64, x65, x66, x67, x68, x69, x70, (by simp only [Act.put, List.setIfInBounds_toArray, List.set_cons_zero, List.set_cons_succ]), ⟨hr.pre, hr.pst, (fun _ => rfl), (fun _ => trivial), hr.f1, (fun z => ⟨rfl, trivial⟩), hr.f2, hr.c2, hr.f3, hr.c3, hr.f4, hr.c4, hr.f5, hr.c5, hr.f6, hr.c6, hr.f7, hr.c7, hr.f8, hr.c8, hr.f9, hr.c9, hr.f10, hr.c10, hr.f11, hr.c11, hr.f12, hr.c12⟩⟩ (if_pos rfl) (fun j hj => if_neg hj)
                · obtain rfl := Option.some.inj ho
                  have g0 : ℓ 0 = true := hdep { on := 0, ground := Ground.data } (by simp) rfl
                  clear hdep ho
                  have hl : ℓ 12 = false := by
                    cases h7 : ℓ 12
                    · rfl
                    · have := (hr.c11 (hr.c12 h7).2.1).1; rw [this] at hL; cases hL
                  have hp := hr.pre hl
                  revert hK
                  obtain rfl := hr.f0 g0
                  have kq := hp.gu.bx
                  have q0 := kq.cell 0 _ rfl
                  clear kq
                  intro hK
                  rw [if_pos (by rfl)]
                  try simp only [Act.put, List.setIfInBounds_toArray, List.set_cons_zero, List.set_cons_succ]
                  go_simp
                  exact hK.out _ _ (fun j => if j = 1 then true else ℓ j) ⟨.pointer (some ⟨P, 0, none⟩), .slice (some ⟨R, off, none⟩) 16 rc, x61, x62, x63, x64, x65, x66, x67, x68, x69, x70, (by simp only [Act.put, List.setIfInBounds_toArray, List.set_cons_zero, List.set_cons_succ]), ⟨hr.pre, hr.pst, hr.f0, hr.c0, (fun _ => rfl), (fun _ => ⟨g0, trivial⟩), hr.f2, hr.c2, hr.f3, hr.c3, hr.f4, hr.c4, hr.f5, hr.c5, hr.f6, hr.c6, hr.f7, hr.c7, hr.f8, hr.c8, hr.f9, hr.c9, hr.f10, hr.c10, hr.f11, (fun z => ⟨rfl, (hr.c11 z).2.1, trivial⟩), hr.f12, hr.c12⟩⟩ (if_pos rfl) (fun j hj => if_neg hj)
                · obtain rfl := Option.some.inj ho
                  clear hdep ho
                  revert hK
                  intro hK
                  rw [if_pos (by rfl)]
                  try simp only [Act.put, List.setIfInBounds_toArray, List.set_cons_zero, List.set_cons_succ]
                  go_simp
                  exact hK.out _ _ (fun j => if j = 2 then true else ℓ j) ⟨x59, x60, .int .i64 (i : Int), x62, x63, x64, x65, x66, x67, x68, x69, x70, (by simp only [Act.put, List.setIfInBounds_toArray, List.set_cons_zero, List.set_cons_succ]), ⟨hr.pre, hr.pst, hr.f0, hr.c0, hr.f1, hr.c1, (fun _ => rfl), (fun _ => trivial), hr.f3, hr.c3, hr.f4, hr.c4, hr.f5, hr.c5, hr.f6, hr.c6, hr.f7, hr.c7, hr.f8, hr.c8, hr.f9, hr.c9, hr.f10, hr.c10, hr.f11, (fun z => ⟨(hr.c11 z).1, rfl, trivial⟩), hr.f12, hr.c12⟩⟩ (if_pos rfl) (fun j hj => if_neg hj)
                · obtain rfl := Option.some.inj ho
                  clear hdep ho
                  revert hK
                  intro hK
                  rw [if_pos (by rfl)]
                  try simp only [Act.put, List.setIfInBounds_toArray, List.set_cons_zero, List.set_cons_succ]
                  go_simp
                  exact hK.out _ _ (fun j => if j = 3 then true else ℓ j) ⟨x59, x60, x61, .slice (some ⟨G, 0, none⟩) 2 2, x63, x64, x65, x66, x67, x68, x69, x70, (by simp only [Act.put, List.setIfInBounds_toArray, List.set_cons_zero, List.set_cons_succ]), ⟨hr.pre, hr.pst, hr.f0, hr.c0, hr.f1, hr.c1, hr.f2, hr.c2, (fun _ => rfl), (fun _ => trivial), hr.f4, (fun z => ⟨rfl, trivial⟩), hr.f5, hr.c5, hr.f6, hr.c6, hr.f7, hr.c7, hr.f8, hr.c8, hr.f9, hr.c9, hr.f10, hr.c10, hr.f11, hr.c11, hr.f12, hr.c12⟩⟩ (if_pos rfl) (fun j hj => if_neg hj)
                · obtain rfl := Option.some.inj ho
                  have g3 : ℓ 3 = true := hdep { on := 3, ground := Ground.data } (by simp) rfl
                  clear hdep ho
                  revert hK
                  obtain rfl := hr.f3 g3
                  intro hK
                  rw [if_pos (by rfl)]
                  try simp only [Act.put, List.setIfInBounds_toArray, List.set_cons_zero, List.set_cons_succ]
                  go_simp
                  exact hK.out _ _ (fun j => if j = 4 then true else ℓ j) ⟨x59, x60, x61, .slice (some ⟨G, 0, none⟩) 2 2, .pointer (some ⟨G, 3, none⟩), x64, x65, x66, x67, x68, x69, x70, (by simp only [Act.put, List.setIfInBounds_toArray, List.set_cons_zero, List.set_cons_succ]), ⟨hr.pre, hr.pst, hr.f0, hr.c0, hr.f1, hr.c1, hr.f2, hr.c2, hr.f3, hr.c3, (fun _ => rfl), (fun _ => ⟨g3, trivial⟩), hr.f5, (fun z => ⟨rfl, trivial⟩), hr.f6, hr.c6, hr.f7, hr.c7, hr.f8, hr.c8, hr.f9, hr.c9, hr.f10, hr.c10, hr.f11, hr.c11, hr.f12, hr.c12⟩⟩ (if_pos rfl) (fun j hj => if_neg hj)
                · obtain rfl := Option.some.inj ho
                  have g4 : ℓ 4 = true := hdep { on := 4, ground := Ground.data } (by simp) rfl
                  clear hdep ho
                  revert hK
                  obtain rfl := hr.f4 g4
                  intro hK
                  rw [if_pos (by rfl)]
                  try simp only [Act.put, List.setIfInBounds_toArray, List.set_cons_zero, List.set_cons_succ]
                  go_simp
                  exact hK.out _ _ (fun j => if j = 5 then true else ℓ j) ⟨x59, x60, x61, x62, .pointer (some ⟨G, 3, none⟩), .pointer (some ⟨G, 3, none⟩), x65, x66, x67, x68, x69, x70, (by simp only [Act.put, List.setIfInBounds_toArray, List.set_cons_zero, List.set_cons_succ]), ⟨hr.pre, hr.pst, hr.f0, hr.c0, hr.f1, hr.c1, hr.f2, hr.c2, hr.f3, hr.c3, hr.f4, hr.c4, (fun _ => rfl), (fun _ => ⟨g4, trivial⟩), hr.f6, (fun z => ⟨rfl, trivial⟩), hr.f7, hr.c7, hr.f8, hr.c8, hr.f9, hr.c9, hr.f10, hr.c10, hr.f11, hr.c11, hr.f12, hr.c12⟩⟩ (if_pos rfl) (fun j hj => if_neg hj)
                · obtain rfl := Option.some.inj ho
                  have g5 : ℓ 5 = true := hdep { on := 5, ground := Ground.data } (by simp) rfl
                  clear hdep ho
                  have hl : ℓ 12 = false := by
                    cases h7 : ℓ 12
                    · rfl
                    · have := (hr.c9 (hr.c10 (hr.c12 h7).1).1).1; rw [this] at hL; cases hL
                  have hp := hr.pre hl
                  revert hK
                  obtain rfl := hr.f5 g5
                  have q0 := hp.gu.wn.cell 3 _ rfl
                  intro hK
                  rw [if_pos (by rfl)]
                  try simp only [Act.put, List.setIfInBounds_toArray, List.set_cons_zero, List.set_cons_succ]
                  go_simp
                  exact hK.out _ _ (fun j => if j = 6 then true else ℓ j) ⟨x59, x60, x61, x62, x63, .pointer (some ⟨G, 3, none⟩), .int .i64 (192 + 4 * k), x66, x67, x68, x69, x70, (by simp only [Act.put, List.setIfInBounds_toArray, List.set_cons_zero, List.set_cons_succ]), ⟨hr.pre, hr.pst, hr.f0, hr.c0, hr.f1, hr.c1, hr.f2, hr.c2, hr.f3, hr.c3, hr.f4, hr.c4, hr.f5, hr.c5, (fun _ => rfl), (fun _ => ⟨g5, trivial⟩), hr.f7, hr.c7, hr.f8, hr.c8, hr.f9, (fun z => ⟨rfl, (hr.c9 z).2.1, trivial⟩), hr.f10, hr.c10, hr.f11, hr.c11, hr.f12, hr.c12⟩⟩ (if_pos rfl) (fun j hj => if_neg hj)
                · obtain rfl := Option.some.inj ho
                  clear hdep ho
                  revert hK
                  intro hK
                  rw [if_pos (by rfl)]
                  try simp only [Act.put, List.setIfInBounds_toArray, List.set_cons_zero, List.set_cons_succ]
                  go_simp
                  exact hK.out _ _ (fun j => if j = 7 then true else ℓ j) ⟨x59, x60, x61, x62, x63, x64, x65, .pointer (some ⟨B, 0, none⟩), x67, x68, x69, x70, (by simp only [Act.put, List.setIfInBounds_toArray, List.set_cons_zero, List.set_cons_succ]), ⟨hr.pre, hr.pst, hr.f0, hr.c0, hr.f1, hr.c1, hr.f2, hr.c2, hr.f3, hr.c3, hr.f4, hr.c4, hr.f5, hr.c5, hr.f6, hr.c6, (fun _ => rfl), (fun _ => trivial), hr.f8, (fun z => ⟨rfl, trivial⟩), hr.f9, hr.c9, hr.f10, hr.c10, hr.f11, hr.c11, hr.f12, hr.c12⟩⟩ (if_pos rfl) (fun j hj => if_neg hj)
                · obtain rfl := Option.some.inj ho
                  have g7 : ℓ 7 = true := hdep { on := 7, ground := Ground.data } (by simp) rfl
                  clear hdep ho
                  have hl : ℓ 12 = false := by
                    cases h7 : ℓ 12
                    · rfl
                    · have := (hr.c9 (hr.c10 (hr.c12 h7).1).1).2.1; rw [this] at hL; cases hL
                  have hp := hr.pre hl
                  revert hK
                  obtain rfl := hr.f7 g7
                  intro hK
                  rw [if_pos (by rfl)]
                  try simp only [Act.put, List.setIfInBounds_toArray, List.set_cons_zero, List.set_cons_succ]
                  go_simp
                  refine Calls.mono (HDB.out _ _ hp) ?_
                  rintro e w9 ⟨yn, rfl, hyn, hzn, hpn⟩
                  exact hK.out _ _ (fun j => if j = 8 then true else ℓ j) ⟨x59, x60, x61, x62, x63, x64, x65, .pointer (some ⟨B, 0, none⟩), .int .i64 yn, x68, x69, x70, (by simp only [Act.put, List.setIfInBounds_toArray, List.set_cons_zero, List.set_cons_succ]), ⟨(fun _ => hpn), (fun z => by rw [hl] at z; cases z), hr.f0, hr.c0, hr.f1, hr.c1, hr.f2, hr.c2, hr.f3, hr.c3, hr.f4, hr.c4, hr.f5, hr.c5, hr.f6, hr.c6, hr.f7, hr.c7, (fun _ => ⟨_, rfl, hyn, hzn⟩), (fun _ => ⟨g7, trivial⟩), hr.f9, (fun z => ⟨(hr.c9 z).1, rfl, trivial⟩), hr.f10, hr.c10, hr.f11, hr.c11, hr.f12, hr.c12⟩⟩ (if_pos rfl) (fun j hj => if_neg hj)
                · obtain rfl := Option.some.inj ho
                  have g6 : ℓ 6 = true := hdep { on := 6, ground := Ground.data } (by simp) rfl
                  have g8 : ℓ 8 = true := hdep { on := 8, ground := Ground.data } (by simp) rfl
                  clear hdep ho
                  revert hK
                  obtain rfl := hr.f6 g6
                  obtain ⟨y8, rfl, hy8, hz8⟩ := hr.f8 g8
                  have ew := wrap_s (x := 192 + 4 * k + y8) (by omega)
                  intro hK
                  rw [if_pos (by rfl)]
                  try simp only [Act.put, List.setIfInBounds_toArray, List.set_cons_zero, List.set_cons_succ]
                  go_simp
                  exact hK.out _ _ (fun j => if j = 9 then true else ℓ j) ⟨x59, x60, x61, x62, x63, x64, .int .i64 (192 + 4 * k), x66, .int .i64 y8, .int .i64 (192 + 4 * k + y8), x69, x70, (by simp only [Act.put, List.setIfInBounds_toArray, List.set_cons_zero, List.set_cons_succ]), ⟨hr.pre, hr.pst, hr.f0, hr.c0, hr.f1, hr.c1, hr.f2, hr.c2, hr.f3, hr.c3, hr.f4, hr.c4, hr.f5, hr.c5, hr.f6, hr.c6, hr.f7, hr.c7, hr.f8, hr.c8, (fun _ => ⟨_, rfl, by omega, by omega⟩), (fun _ => ⟨g6, g8, trivial⟩), hr.f10, (fun z => ⟨rfl, trivial⟩), hr.f11, hr.c11, hr.f12, hr.c12⟩⟩ (if_pos rfl) (fun j hj => if_neg hj)
                · obtain rfl := Option.some.inj ho
                  have g9 : ℓ 9 = true := hdep { on := 9, ground := Ground.data } (by simp) rfl
                  clear hdep ho
                  revert hK
                  obtain ⟨y9, rfl, hy9, hz9⟩ := hr.f9 g9
                  have ew := IntWalk.u32_in y9 (by omega)
                  intro hK
                  rw [if_pos (by rfl)]
                  try simp only [Act.put, List.setIfInBounds_toArray, List.set_cons_zero, List.set_cons_succ]
                  go_simp
                  exact hK.out _ _ (fun j => if j = 10 then true else ℓ j) ⟨x59, x60, x61, x62, x63, x64, x65, x66, x67, .int .i64 y9, .int .u32 (y9), x70, (by simp only [Act.put, List.setIfInBounds_toArray, List.set_cons_zero, List.set_cons_succ]), ⟨hr.pre, hr.pst, hr.f0, hr.c0, hr.f1, hr.c1, hr.f2, hr.c2, hr.f3, hr.c3, hr.f4, hr.c4, hr.f5, hr.c5, hr.f6, hr.c6, hr.f7, hr.c7, hr.f8, hr.c8, hr.f9, hr.c9, (fun _ => ⟨_, rfl, by omega, by omega⟩), (fun _ => ⟨g9, trivial⟩), hr.f11, hr.c11, hr.f12, (fun z => ⟨rfl, (hr.c12 z).2.1, trivial⟩)⟩⟩ (if_pos rfl) (fun j hj => if_neg hj)
                · obtain rfl := Option.some.inj ho
                  have g1 : ℓ 1 = true := hdep { on := 1, ground := Ground.data } (by simp) rfl
                  have g2 : ℓ 2 = true := hdep { on := 2, ground := Ground.data } (by simp) rfl
                  clear hdep ho
                  revert hK
                  obtain rfl := hr.f1 g1
                  obtain rfl := hr.f2 g2
                  have h16 : (i : Int) < 16 := by omega
                  intro hK
                  rw [if_pos (by rfl)]
                  try simp only [Act.put, List.setIfInBounds_toArray, List.set_cons_zero, List.set_cons_succ]
                  go_simp
                  exact hK.out _ _ (fun j => if j = 11 then true else ℓ j) ⟨x59, .slice (some ⟨R, off, none⟩) 16 rc, .int .i64 (i : Int), x62, x63, x64, x65, x66, x67, x68, x69, .pointer (some ⟨R, off + i, none⟩), (by simp only [Act.put, List.setIfInBounds_toArray, List.set_cons_zero, List.set_cons_succ]), ⟨hr.pre, hr.pst, hr.f0, hr.c0, hr.f1, hr.c1, hr.f2, hr.c2, hr.f3, hr.c3, hr.f4, hr.c4, hr.f5, hr.c5, hr.f6, hr.c6, hr.f7, hr.c7, hr.f8, hr.c8, hr.f9, hr.c9, hr.f10, hr.c10, (fun _ => rfl), (fun _ => ⟨g1, g2, trivial⟩), hr.f12, (fun z => ⟨(hr.c12 z).1, rfl, trivial⟩)⟩⟩ (if_pos rfl) (fun j hj => if_neg hj)
                · obtain rfl := Option.some.inj ho
                  have g10 : ℓ 10 = true := hdep { on := 10, ground := Ground.data } (by simp) rfl
                  have g11 : ℓ 11 = true := hdep { on := 11, ground := Ground.data } (by simp) rfl
                  clear hdep ho
                  have hp := hr.pre hL
                  revert hK
                  obtain ⟨y10, rfl, hy10, hz10⟩ := hr.f10 g10
                  obtain rfl := hr.f11 g11
                  obtain ⟨⟨u, hu⟩, hfz, hst⟩ := HST.out _ _ hp
                  have hq := hst y10
                  clear hst
                  intro hK
                  have HQq : Hid _ := hq
                  clear hq hp
                  rw [if_pos (by rfl)]
                  try simp only [Act.put, List.setIfInBounds_toArray, List.set_cons_zero, List.set_cons_succ]
                  go_simp
                  exact hK.out _ _ (fun j => if j = 12 then true else ℓ j) ⟨x59, x60, x61, x62, x63, x64, x65, x66, x67, x68, .int .u32 y10, .pointer (some ⟨R, off + i, none⟩), (by simp only [Act.put, List.setIfInBounds_toArray, List.set_cons_zero, List.set_cons_succ]), ⟨(fun z => by cases z), (fun _ => HQq.out), hr.f0, hr.c0, hr.f1, hr.c1, hr.f2, hr.c2, hr.f3, hr.c3, hr.f4, hr.c4, hr.f5, hr.c5, hr.f6, hr.c6, hr.f7, hr.c7, hr.f8, hr.c8, hr.f9, hr.c9, hr.f10, hr.c10, hr.f11, hr.c11, (fun _ => trivial), (fun _ => ⟨g10, g11, trivial⟩)⟩⟩ (if_pos rfl) (fun j hj => if_neg hj)
              · rintro a' w' ℓ ℓ' hℓ hI
                rw [← show ℓ = ℓ' from funext hℓ]
                exact hI
          · intro ℓ a' w' i o hI ho hi hL hdep K hK
            obtain ⟨x51, x52, x53, x54, x55, x56, rfl, hr⟩ := hI
            have hi7 : i < 7 := hi
            have hcs : i = 0 ∨ i = 1 ∨ i = 2 ∨ i = 3 ∨ i = 4 ∨ i = 5 ∨ i = 6 := by omega
            clear hi hi7
            rcases hcs with rfl | rfl | rfl | rfl | rfl | rfl | rfl
            · obtain rfl := Option.some.inj ho
              clear hdep ho
              revert hK
              intro hK
              rw [if_pos (by rfl)]
              try simp only [Act.put, List.setIfInBounds_toArray, List.set_cons_zero, List.set_cons_succ]
              go_simp
              exact hK.out _ _ (fun j => if j = 0 then true else ℓ j) ⟨.pointer (some ⟨P, 0, none⟩), x52, x53, x54, x55, x56, (by simp only [Act.put, List.setIfInBounds_toArray, List.set_cons_zero, List.set_cons_succ]), ⟨hr.pre, hr.pst, (fun _ => rfl), (fun _ => trivial), hr.f1, (fun z => ⟨rfl, trivial⟩), hr.f2, hr.c2, hr.f3, hr.c3, hr.f4, hr.c4, hr.f5, hr.c5, hr.f6, hr.c6⟩⟩ (if_pos rfl) (fun j hj => if_neg hj)
            · obtain rfl := Option.some.inj ho
              have g0 : ℓ 0 = true := hdep { on := 0, ground := Ground.data } (by simp) rfl
              clear hdep ho
              have hl : ℓ 6 = false := by
                cases h7 : ℓ 6
                · rfl
                · have := (hr.c5 (hr.c6 h7).2.1).1; rw [this] at hL; cases hL
              have hp := hr.pre hl
              revert hK
              obtain rfl := hr.f0 g0
              have kq := hp.gu.bx
              have q0 := kq.cell 0 _ rfl
              clear kq
              intro hK
              rw [if_pos (by rfl)]
              try simp only [Act.put, List.setIfInBounds_toArray, List.set_cons_zero, List.set_cons_succ]
              go_simp
              exact hK.out _ _ (fun j => if j = 1 then true else ℓ j) ⟨.pointer (some ⟨P, 0, none⟩), .slice (some ⟨R, off, none⟩) 16 rc, x53, x54, x55, x56, (by simp only [Act.put, List.setIfInBounds_toArray, List.set_cons_zero, List.set_cons_succ]), ⟨hr.pre, hr.pst, hr.f0, hr.c0, (fun _ => rfl), (fun _ => ⟨g0, trivial⟩), hr.f2, hr.c2, hr.f3, hr.c3, hr.f4, hr.c4, hr.f5, (fun z => ⟨rfl, (hr.c5 z).2.1, trivial⟩), hr.f6, hr.c6⟩⟩ (if_pos rfl) (fun j hj => if_neg hj)
            · obtain rfl := Option.some.inj ho
              clear hdep ho
              revert hK
              intro hK
              rw [if_pos (by rfl)]
              try simp only [Act.put, List.setIfInBounds_toArray, List.set_cons_zero, List.set_cons_succ]
              go_simp
              exact hK.out _ _ (fun j => if j = 2 then true else ℓ j) ⟨x51, x52, .int .i64 (i : Int), x54, x55, x56, (by simp only [Act.put, List.setIfInBounds_toArray, List.set_cons_zero, List.set_cons_succ]), ⟨hr.pre, hr.pst, hr.f0, hr.c0, hr.f1, hr.c1, (fun _ => rfl), (fun _ => trivial), hr.f3, hr.c3, hr.f4, hr.c4, hr.f5, (fun z => ⟨(hr.c5 z).1, rfl, trivial⟩), hr.f6, hr.c6⟩⟩ (if_pos rfl) (fun j hj => if_neg hj)
            · obtain rfl := Option.some.inj ho
              clear hdep ho
              revert hK
              intro hK
              rw [if_pos (by rfl)]
              try simp only [Act.put, List.setIfInBounds_toArray, List.set_cons_zero, List.set_cons_succ]
              go_simp
              exact hK.out _ _ (fun j => if j = 3 then true else ℓ j) ⟨x51, x52, x53, .pointer (some ⟨B, 0, none⟩), x55, x56, (by simp only [Act.put, List.setIfInBounds_toArray, List.set_cons_zero, List.set_cons_succ]), ⟨hr.pre, hr.pst, hr.f0, hr.c0, hr.f1, hr.c1, hr.f2, hr.c2, (fun _ => rfl), (fun _ => trivial), hr.f4, (fun z => ⟨rfl, trivial⟩), hr.f5, hr.c5, hr.f6, hr.c6⟩⟩ (if_pos rfl) (fun j hj => if_neg hj)
            · obtain rfl := Option.some.inj ho
              have g3 : ℓ 3 = true := hdep { on := 3, ground := Ground.data } (by simp) rfl
              clear hdep ho
              have hl : ℓ 6 = false := by
                cases h7 : ℓ 6
                · rfl
                · have := (hr.c6 h7).1; rw [this] at hL; cases hL
              have hp := hr.pre hl
              revert hK
              obtain rfl := hr.f3 g3
              intro hK
              rw [if_pos (by rfl)]
              try simp only [Act.put, List.setIfInBounds_toArray, List.set_cons_zero, List.set_cons_succ]
              go_simp
              refine Calls.mono (HDW.out _ hp) ?_
              rintro e w9 ⟨yn, rfl, hyn, hzn, hpn⟩
              exact hK.out _ _ (fun j => if j = 4 then true else ℓ j) ⟨x51, x52, x53, .pointer (some ⟨B, 0, none⟩), .int .u32 yn, x56, (by simp only [Act.put, List.setIfInBounds_toArray, List.set_cons_zero, List.set_cons_succ]), ⟨(fun _ => hpn), (fun z => by rw [hl] at z; cases z), hr.f0, hr.c0, hr.f1, hr.c1, hr.f2, hr.c2, hr.f3, hr.c3, (fun _ => ⟨_, rfl, hyn, hzn⟩), (fun _ => ⟨g3, trivial⟩), hr.f5, hr.c5, hr.f6, (fun z => ⟨rfl, (hr.c6 z).2.1, trivial⟩)⟩⟩ (if_pos rfl) (fun j hj => if_neg hj)
            · obtain rfl := Option.some.inj ho
              have g1 : ℓ 1 = true := hdep { on := 1, ground := Ground.data } (by simp) rfl
              have g2 : ℓ 2 = true := hdep { on := 2, ground := Ground.data } (by simp) rfl
              clear hdep ho
              revert hK
              obtain rfl := hr.f1 g1
              obtain rfl := hr.f2 g2
              have h16 : (i : Int) < 16 := by omega
              intro hK
              rw [if_pos (by rfl)]
              try simp only [Act.put, List.setIfInBounds_toArray, List.set_cons_zero, List.set_cons_succ]
              go_simp
              exact hK.out _ _ (fun j => if j = 5 then true else ℓ j) ⟨x51, .slice (some ⟨R, off, none⟩) 16 rc, .int .i64 (i : Int), x54, x55, .pointer (some ⟨R, off + i, none⟩), (by simp only [Act.put, List.setIfInBounds_toArray, List.set_cons_zero, List.set_cons_succ]), ⟨hr.pre, hr.pst, hr.f0, hr.c0, hr.f1, hr.c1, hr.f2, hr.c2, hr.f3, hr.c3, hr.f4, hr.c4, (fun _ => rfl), (fun _ => ⟨g1, g2, trivial⟩), hr.f6, (fun z => ⟨(hr.c6 z).1, rfl, trivial⟩)⟩⟩ (if_pos rfl) (fun j hj => if_neg hj)
            · obtain rfl := Option.some.inj ho
              have g4 : ℓ 4 = true := hdep { on := 4, ground := Ground.data } (by simp) rfl
              have g5 : ℓ 5 = true := hdep { on := 5, ground := Ground.data } (by simp) rfl
              clear hdep ho
              have hp := hr.pre hL
              revert hK
              obtain ⟨y4, rfl, hy4, hz4⟩ := hr.f4 g4
              obtain rfl := hr.f5 g5
              obtain ⟨⟨u, hu⟩, hfz, hst⟩ := HST.out _ _ hp
              have hq := hst y4
              clear hst
              intro hK
              have HQq : Hid _ := hq
              clear hq hp
              rw [if_pos (by rfl)]
              try simp only [Act.put, List.setIfInBounds_toArray, List.set_cons_zero, List.set_cons_succ]
              go_simp
              exact hK.out _ _ (fun j => if j = 6 then true else ℓ j) ⟨x51, x52, x53, x54, .int .u32 y4, .pointer (some ⟨R, off + i, none⟩), (by simp only [Act.put, List.setIfInBounds_toArray, List.set_cons_zero, List.set_cons_succ]), ⟨(fun z => by cases z), (fun _ => HQq.out), hr.f0, hr.c0, hr.f1, hr.c1, hr.f2, hr.c2, hr.f3, hr.c3, hr.f4, hr.c4, hr.f5, hr.c5, (fun _ => trivial), (fun _ => ⟨g4, g5, trivial⟩)⟩⟩ (if_pos rfl) (fun j hj => if_neg hj)
          · rintro a' w' ℓ ℓ' hℓ hI
            rw [← show ℓ = ℓ' from funext hℓ]
            exact hI
end Iy
end Go.Proofs.Ytanffdedignegaa
namespace Go.Proofs.Ytanffdedignegaa
open Go.ChangeShapes Go.WideShapes Go.ChangeAt Go.RowKit Go.Deep
set_option linter.unusedVariables false
namespace Iy

/-- What is told of windows and a guest that were drawn: numbers that are small, lengths, bytes. -/
structure GT (xs : List Wn) (rl rc n mc : Nat) (rs : List Int) (D : Nat → List Int) : Prop where
  xl : xs.length = 2
  xsm : ∀ i, i < 2 → Sm (xs.getD i wn0).1 ∧ Sm (xs.getD i wn0).2.1
  gl : rs.length = rl
  r16 : rl ≤ 16
  gc : rl ≤ rc
  n2 : n ≤ 2
  gm : n ≤ mc
  dl : ∀ i, i < n → (D i).length ≤ 128
  b8 : ∀ i, i < n → ∀ z ∈ D i, (Lit.int .u8 z).wf = true
theorem GT.fit {xs : List Wn} {rl rc n mc : Nat} {rs : List Int} {D : Nat → List Int} (h : GT xs rl rc n mc rs D) : Fit xs := fun i hi => by
  have := (h.xsm i (by rw [← h.xl]; exact hi)).2
  unfold Sm at this
  omega
theorem GT.tot {xs : List Wn} {rl rc n mc : Nat} {rs : List Int} {D : Nat → List Int} (h : GT xs rl rc n mc rs D) : btot D n ≤ 256 := by
  have hn := h.n2
  have hd := h.dl
  match n, hn, hd with
  | 0, _, _ => simp [btot]
  | 1, _, hd => have := hd 0 (by omega); simp [btot]; omega
  | 2, _, hd => have := hd 0 (by omega); have := hd 1 (by omega); simp [btot]; omega
/-- Windows and a guest as they are read, a box of the guest, the answer's room: what happens to blocks up to the room leaves them. -/
structure GF (w X : World) (B : Nat) (a : Option Addr) (zs : List Int) (cap G P : Nat) (xs : List Wn) (ra ma : Option Addr) (rl rc n mc : Nat) (pc : Int) (rs : List Int) (D : Nat → List Int) : Prop where
  ct : CT w X B a zs cap
  r3 : Bk X w.heap.size #[.slice none 0 0, .int .u32 0, .slice none 0 0]
  bx : Bk X P #[.slice ra rl rc, .int .u32 pc, .slice ma n mc]
  hp : w.heap.size < P
  kp : ∀ (l h : Nat) (Y : World), h ≤ w.heap.size + 1 → Betw l h X Y → ASeg Y (some ⟨G, 0, none⟩) xs ∧ XGSeg Y ra ma rs n D
  gt : GT xs rl rc n mc rs D
variable {w X Y : World} {B : Nat} {a : Option Addr} {zs : List Int} {cap G P : Nat} {xs : List Wn} {ra ma : Option Addr} {rl rc n mc : Nat} {pc : Int} {rs : List Int} {D : Nat → List Int}
theorem betw_none {X Y : World} (h : Below X.heap.size X Y) : Betw 0 0 X Y := Below.betw h
theorem GF.below (h : GF w X B a zs cap G P xs ra ma rl rc n mc pc rs D) (hb : Below X.heap.size X Y) : GF w Y B a zs cap G P xs ra ma rl rc n mc pc rs D := by
  refine ⟨h.ct.below hb, h.r3.below hb, h.bx.below hb, h.hp, fun l h' Z hh hZ => ?_, h.gt⟩
  refine h.kp l h' Z hh ⟨hZ.os.trans hb.os, hZ.tape.trans hb.tape, hZ.output.trans hb.output, Nat.le_trans hb.size hZ.size, fun k hk ho => (hZ.block k (Nat.lt_of_lt_of_le hk hb.size) ho).trans (hb.block k hk)⟩
theorem GF.read (h : GF w X B a zs cap G P xs ra ma rl rc n mc pc rs D) : ASeg X (some ⟨G, 0, none⟩) xs ∧ XGSeg X ra ma rs n D := h.kp 0 0 X (by omega) (Betw.refl _ _ _)
/-- A drawn guest that was not turned. -/
theorem GV.same {lo m hi : Nat} {x0 x1 : Wn} (h : GV w X B a zs cap G lo m hi P x0 x1 ra ma rc mc pc rs D) (h0 : Sm x0.1 ∧ Sm x0.2.1) (h1 : Sm x1.1 ∧ Sm x1.2.1) (hr : 16 ≤ rc) (hm : 2 ≤ mc) : GF w X B a zs cap G P [x0, x1] ra ma 16 rc 2 mc pc rs D := by
  have k2 := h.o0
  have k3 := h.gu.o2
  have k4 := h.gu.o3
  have k5 := h.gu.o4
  have k6 := h.gu.o5
  refine ⟨h.gu.ct, h.r3, h.gu.bx, by omega, fun l h' Y hh hY => ⟨fun _ => ?_, (h.gu.gs.betw hY (.inr (by omega)) k4 k5).seg⟩, ⟨rfl, fun i hi => ?_, h.gu.rl, by omega, hr, by omega, hm, fun i hi => ?_, h.gu.b8⟩⟩
  · have hw := bk_betw h.gu.wn hY (.inr (by omega))
    refine ⟨G, 0, rfl, hw.lt, fun i hi => ?_⟩
    have hi' : i = 0 ∨ i = 1 := by simp at hi; omega
    rcases hi' with rfl | rfl
    · exact ⟨hw.cell 0 _ rfl, hw.cell 1 _ rfl, hw.cell 2 _ rfl⟩
    · exact ⟨hw.cell 3 _ rfl, hw.cell 4 _ rfl, hw.cell 5 _ rfl⟩
  · have hi' : i = 0 ∨ i = 1 := by omega
    rcases hi' with rfl | rfl
    · exact h0
    · exact h1
  · have hi' : i = 0 ∨ i = 1 := by omega
    have := h.gu.d0
    have := h.gu.d1
    rcases hi' with rfl | rfl <;> omega
theorem seg_take {k : IntKind} {w : World} {a : Option Addr} {zs : List Int} (h : Seg k w a zs) (n : Nat) : Seg k w a (zs.take n) := fun h0 => by
  have hl : 0 < zs.length := by rw [List.length_take] at h0; omega
  obtain ⟨b, off, e, hlt, hc⟩ := h hl
  refine ⟨b, off, e, hlt, fun i hi => ?_⟩
  rw [List.length_take] at hi
  have := hc i (by omega)
  simpa [List.getD, List.getElem?_take, show i < n by omega] using this
/-- The guest's box written anew: the counter, fewer registers, fewer rows. -/
theorem GV.cut {lo m hi : Nat} {x0 x1 : Wn} {X' : World} (h : GV w X B a zs cap G lo m hi P x0 x1 ra ma rc mc pc rs D) (hX : Betw P (P + 1) X X') {rl n : Nat} {pc' : Int} (hbx : Bk X' P #[.slice ra rl rc, .int .u32 pc', .slice ma n mc]) (hrl : rl ≤ 16) (hn : n ≤ 2) (h0 : Sm x0.1 ∧ Sm x0.2.1) (h1 : Sm x1.1 ∧ Sm x1.2.1) (hr : 16 ≤ rc) (hm : 2 ≤ mc) : GF w X' B a zs cap G P [x0, x1] ra ma rl rc n mc pc' (rs.take rl) D := by
  have k2 := h.o0
  have k3 := h.gu.o2
  have k4 := h.gu.o3
  have k5 := h.gu.o4
  have k6 := h.gu.o5
  have hrs := h.gu.rl
  have hts := h.gu.ct.turn.size
  have hg' : OGst X' lo m hi ra ma rs 2 D := h.gu.gs.betw hX (.inl (by omega)) k4 k5
  have hw' := bk_betw h.gu.wn hX (.inl (by omega))
  refine ⟨h.gu.ct.far (hX.below (by omega) (by omega)), bk_betw h.r3 hX (.inl (by omega)), hbx, by omega, fun l h' Y hh hY => ⟨fun _ => ?_, ?_⟩, ⟨rfl, fun i hi => ?_, by rw [List.length_take]; omega, hrl, by omega, hn, by omega, fun i hi => ?_, fun i hi => h.gu.b8 i (by omega)⟩⟩
  · have hw := bk_betw hw' hY (.inr (by omega))
    refine ⟨G, 0, rfl, hw.lt, fun i hi => ?_⟩
    have hi' : i = 0 ∨ i = 1 := by simp at hi; omega
    rcases hi' with rfl | rfl
    · exact ⟨hw.cell 0 _ rfl, hw.cell 1 _ rfl, hw.cell 2 _ rfl⟩
    · exact ⟨hw.cell 3 _ rfl, hw.cell 4 _ rfl, hw.cell 5 _ rfl⟩
  · obtain ⟨q1, q2⟩ := (hg'.betw hY (.inr (by omega)) k4 k5).seg
    refine ⟨seg_take q1 rl, fun hn0 => ?_⟩
    obtain ⟨b, off, e, hlt, hc⟩ := q2 (by omega)
    exact ⟨b, off, e, hlt, fun i hi => hc i (by omega)⟩
  · have hi' : i = 0 ∨ i = 1 := by omega
    rcases hi' with rfl | rfl
    · exact h0
    · exact h1
  · have hi' : i = 0 ∨ i = 1 := by omega
    have := h.gu.d0
    have := h.gu.d1
    rcases hi' with rfl | rfl <;> omega
/-- A window's base written. -/
theorem GV.win {lo m hi : Nat} {x0 x1 : Wn} (h : GV w X B a zs cap G lo m hi P x0 x1 ra ma rc mc pc rs D) (y : Int) : GV w (X.setCell ⟨G, 3, none⟩ (.int .i64 y)) B a zs cap G lo m hi P x0 (y, x1.2.1, x1.2.2) ra ma rc mc pc rs D := by
  have k2 := h.o0
  have k3 := h.gu.o2
  have k4 := h.gu.o3
  have k5 := h.gu.o4
  have k6 := h.gu.o5
  have hts := h.gu.ct.turn.size
  have hX : Betw G (G + 1) X (X.setCell ⟨G, 3, none⟩ (.int .i64 y)) := (Betw.refl _ _ _).setCell (p := ⟨G, 3, none⟩) (Nat.le_refl _) (Nat.lt_succ_self _) _
  exact ⟨⟨h.gu.ct.far (hX.below (by omega) (by omega)), h.gu.wn.set 3 _ (by simp) rfl, h.gu.gs.betw hX (.inr (by omega)) k4 k5, bk_betw h.gu.bx hX (.inr (by omega)), h.gu.o1, k3, k4, k5, k6, h.gu.rl, h.gu.d0, h.gu.d1, h.gu.b8, h.gu.mfb hX (fun b o e => by have := h.gu.rng b o e; omega)⟩, bk_betw h.r3 hX (.inl (by omega)), k2⟩
/-- The second row cut. -/
theorem GV.row {lo m hi : Nat} {x0 x1 : Wn} (h : GV w X B a zs cap G lo m hi P x0 x1 ra ma rc mc pc rs D) (h0 : Sm x0.1 ∧ Sm x0.2.1) (h1 : Sm x1.1 ∧ Sm x1.2.1) (hr : 16 ≤ rc) (hm : 2 ≤ mc) :
    ∃ b2 o2 bi oi ci, ma = some ⟨b2, o2, none⟩ ∧ X.cell? ⟨b2, o2 + 1, none⟩ = some (.slice (some ⟨bi, oi, none⟩) 64 ci) ∧ 64 ≤ ci ∧ X.frozen? ⟨b2, o2 + 1, none⟩ = false ∧ ∃ D', GF w (X.setCell ⟨b2, o2 + 1, none⟩ (.slice (some ⟨bi, oi, none⟩) 63 ci)) B a zs cap G P [x0, x1] ra ma 16 rc 2 mc pc rs D' := by
  have k2 := h.o0
  have k3 := h.gu.o2
  have k4 := h.gu.o3
  have k5 := h.gu.o4
  have k6 := h.gu.o5
  have hrs := h.gu.rl
  have hts := h.gu.ct.turn.size
  have hd0 := h.gu.d0
  have hd1 := h.gu.d1
  obtain ⟨⟨R, hR⟩, b2, o2, A, C, Q, g1, g2⟩ := h.gu.gs
  obtain ⟨rfl, e1, e2, e3⟩ := g1 (by omega)
  have hmf := h.gu.mf b2 o2 rfl
  obtain ⟨oi, ea, q1, q2, q3, q4, q5⟩ := g2.row 1 (by omega) (by omega)
  have hc1 := g2.cell 1 (by omega)
  have hci := g2.room 1 (by omega)
  rw [ea, hd1] at hc1
  rw [hd1] at hci
  have hX : Betw b2 (b2 + 1) X (X.setCell ⟨b2, o2 + 1, none⟩ (.slice (some ⟨Q 1, oi, none⟩) 63 (C 1))) := (Betw.refl _ _ _).setCell (p := ⟨b2, o2 + 1, none⟩) (Nat.le_refl _) (Nat.lt_succ_self _) _
  refine ⟨b2, o2, Q 1, oi, C 1, rfl, hc1, hci, hmf _, fun i => if i = 1 then (D 1).take 63 else D i, ?_⟩
  have hb0 := g2.base 0 (by omega) (by omega)
  have hb1 := g2.base 1 (by omega) (by omega)
  refine ⟨h.gu.ct.far (hX.below (by omega) (by omega)), bk_betw h.r3 hX (.inl (by omega)), bk_betw h.gu.bx hX (.inr (by omega)), by omega, fun l h' Y hh hY => ⟨fun _ => ?_, ?_, fun _ => ?_⟩, ⟨rfl, fun i hi => ?_, hrs, by omega, hr, by omega, hm, fun i hi => ?_, fun i hi z hz => ?_⟩⟩
  · have hw := bk_betw (bk_betw h.gu.wn hX (.inl (by omega))) hY (.inr (by omega))
    refine ⟨G, 0, rfl, hw.lt, fun i hi => ?_⟩
    have hi' : i = 0 ∨ i = 1 := by simp at hi; omega
    rcases hi' with rfl | rfl
    · exact ⟨hw.cell 0 _ rfl, hw.cell 1 _ rfl, hw.cell 2 _ rfl⟩
    · exact ⟨hw.cell 3 _ rfl, hw.cell 4 _ rfl, hw.cell 5 _ rfl⟩
  · exact ((hR.betw hX (fun g => by have := hR.range g; omega)).betw hY (fun g => by have := hR.range g; omega)).seg
  · refine ⟨b2, o2, rfl, Nat.lt_of_lt_of_le e3 (Nat.le_trans hX.size hY.size), fun i hi => ?_⟩
    have hi' : i = 0 ∨ i = 1 := by omega
    have hcy : ∀ j, Y.cell? ⟨b2, j, none⟩ = (X.setCell ⟨b2, o2 + 1, none⟩ (.slice (some ⟨Q 1, oi, none⟩) 63 (C 1))).cell? ⟨b2, j, none⟩ := fun j => hY.cell (p := ⟨b2, j, none⟩) (Nat.lt_of_lt_of_le e3 hX.size) (.inr (by show h' ≤ b2; omega))
    rcases hi' with rfl | rfl
    · have hr0 := g2.row 0 (by omega)
      refine ⟨A 0, C 0, ?_, ?_, ?_⟩
      · rw [hcy, World.cell?_setCell_other _ _ _ _ (by intro e; injection e with e4 e5 e6; omega)]
        simpa using g2.cell 0 (by omega)
      · simpa using ((hr0.betw hX (fun g => by have := hr0.range g; omega)).betw hY (fun g => by have := hr0.range g; omega)).seg
      · simpa using g2.room 0 (by omega)
    · have hr1 := g2.row 1 (by omega)
      refine ⟨some ⟨Q 1, oi, none⟩, C 1, ?_, ?_, ?_⟩
      · rw [hcy, World.cell?_setCell_same _ _ _ hc1]
        simp [hd1]
      · have hs1 := ((hr1.betw hX (fun g => by have := hr1.range g; omega)).betw hY (fun g => by have := hr1.range g; omega)).seg
        rw [ea] at hs1
        simpa using seg_take hs1 63
      · simp [hd1]; omega
  · have hi' : i = 0 ∨ i = 1 := by omega
    rcases hi' with rfl | rfl
    · exact h0
    · exact h1
  · have hi' : i = 0 ∨ i = 1 := by omega
    rcases hi' with rfl | rfl
    · simp [hd0]
    · simp [hd1]
  · have hi' : i = 0 ∨ i = 1 := by omega
    rcases hi' with rfl | rfl
    · exact h.gu.b8 0 (by omega) z (by simpa using hz)
    · exact h.gu.b8 1 (by omega) z (List.mem_of_mem_take (by simpa using hz))
/-- What a draw of a guest, right or not, answers. -/
def GAP (w : World) (B : Nat) (a : Option Addr) (zs : List Int) (cap : Nat) (e : Ending) (w' : World) : Prop :=
  ∃ (G : Nat) (xs : List Wn) (ra ma : Option Addr) (rl rc n mc : Nat) (pc : Int) (rs : List Int) (D : Nat → List Int), e = .returned (.tuple #[.slice (some ⟨G, 0, none⟩) 2 2, gst ra rl rc pc ma n mc]) ∧ CT w w' B a zs cap ∧ (∀ (l h : Nat) (Y : World), h ≤ w.heap.size → Betw l h w' Y → ASeg Y (some ⟨G, 0, none⟩) xs ∧ XGSeg Y ra ma rs n D) ∧ GT xs rl rc n mc rs D
structure Rh15 (Pre Pst : World → Prop) (v56 : Value) (v57 : Value) (w' : World) (b0 b1 b2 b3 : Bool) (x56 x57 x2 : Value) : Prop where
  pre : b3 = false → Pre w'
  pst : b3 = true → Pst w'
  f0 : b0 = true → x56 = v56
  c0 : b0 = true → True
  f1 : b1 = true → x57 = v57
  c1 : b1 = true → True
  f2 : b2 = true → x2 = v56
  c2 : b2 = true → b0 = true ∧ True
  f3 : b3 = true → True
  c3 : b3 = true → b1 = true ∧ True
structure Rh12 (Pre Pst : World → Prop) (v39 : Value) (v40 : Value) (v43 : Value) (v44 : Value) (v45 : Value) (w' : World) (b0 b1 b2 b3 b4 b5 b6 b7 b8 : Bool) (x39 x40 x41 x42 x43 x44 x45 x46 : Value) : Prop where
  pre : b8 = false → Pre w'
  pst : b8 = true → Pst w'
  f0 : b0 = true → x39 = v39
  c0 : b0 = true → True
  f1 : b1 = true → x40 = v40
  c1 : b1 = true → b0 = true ∧ True
  f2 : b2 = true → x41 = v39
  c2 : b2 = true → True
  f3 : b3 = true → x42 = v40
  c3 : b3 = true → b2 = true ∧ True
  f4 : b4 = true → x43 = v43
  c4 : b4 = true → b3 = true ∧ True
  f5 : b5 = true → x44 = v44
  c5 : b5 = true → b4 = true ∧ True
  f6 : b6 = true → x45 = v45
  c6 : b6 = true → b5 = true ∧ True
  f7 : b7 = true → x46 = v43
  c7 : b7 = true → b1 = true ∧ True
  f8 : b8 = true → True
  c8 : b8 = true → b6 = true ∧ b7 = true ∧ True
theorem slice_to25 (a : Option Addr) (len cap k : Nat) (h : k ≤ cap) (w : World) : (Instr.slice 25 (.slice a len cap) none (some (.int .i64 (k : Int))) none).run Try.prog w = .ok (.slice a k cap) w := by
  rw [run_slice_h w 25 a len cap Try.underlying25 .i64 (k : Int) (by omega) (by omega)]
  have e : ∀ w, (sizeOf (Try.prog.elem 25)).run Try.prog w = .ok 1 w := fun w => by kernel_rfl
  cases a <;> simp [e, sliced, Addr.add]
theorem slice_to27 (a : Option Addr) (len cap k : Nat) (h : k ≤ cap) (w : World) : (Instr.slice 27 (.slice a len cap) none (some (.int .i64 (k : Int))) none).run Try.prog w = .ok (.slice a k cap) w := by
  rw [run_slice_h w 27 a len cap Try.underlying27 .i64 (k : Int) (by omega) (by omega)]
  have e : ∀ w, (sizeOf (Try.prog.elem 27)).run Try.prog w = .ok 1 w := fun w => by kernel_rfl
  cases a <;> simp [e, sliced, Addr.add]
theorem slice_to22 (a : Option Addr) (len cap k : Nat) (h : k ≤ cap) (w : World) : (Instr.slice 22 (.slice a len cap) none (some (.int .i64 (k : Int))) none).run Try.prog w = .ok (.slice a k cap) w := by
  rw [run_slice_h w 22 a len cap Try.underlying22 .i64 (k : Int) (by omega) (by omega)]
  have e : ∀ w, (sizeOf (Try.prog.elem 22)).run Try.prog w = .ok 1 w := fun w => by kernel_rfl
  cases a <;> simp [e, sliced, Addr.add]
set_option maxRecDepth 20000 in
set_option maxHeartbeats 16000000 in
theorem draw_any8 (w : World) (B : Nat) (a : Option Addr) (zs : List Int) (cap : Nat) (hc : Cur w B a zs cap) :
    Calls Try.prog 13 #[.pointer (some ⟨B, 0, none⟩)] w (GAP w B a zs cap) := by
  have hlo := hc.lt
  have HC0 : Hid (CT w (w.alloc (.cells #[.slice none 0 0, .int .u32 0, .slice none 0 0] 29)) B a zs cap) := (CT.start hc).alloc _
  have HR0 : Hid (Bk (w.alloc (.cells #[.slice none 0 0, .int .u32 0, .slice none 0 0] 29)) w.heap.size #[.slice none 0 0, .int .u32 0, .slice none 0 0]) := Bk.new _ _ _ _ rfl
  have hz0 : (w.alloc (.cells #[.slice none 0 0, .int .u32 0, .slice none 0 0] 29)).heap.size = w.heap.size + 1 := by simp
  clear hc
  go_enter Try.func13, Try.ntmps13
  go_wp2_with fail
  revert HC0 HR0 hz0
  generalize (w.alloc (.cells #[.slice none 0 0, .int .u32 0, .slice none 0 0] 29)) = w0
  intro HC0 HR0 hz0
  refine (draw_guest _ B _ _ _ HC0.out.cur).mono ?_
  rintro e w1 ⟨G, lo, m, hi, P0, p, k, ra, ma, rc, mc, pc, rs, D, rfl, hgu, hp, hk, hrc, hmc⟩
  obtain ⟨P, hP⟩ : ∃ x, w1.heap.size = x := ⟨_, rfl⟩
  have HGV1 : Hid (GV w (w1.alloc (.cells #[.slice ra 16 rc, .int .u32 pc, .slice ma 2 mc] 29)) B a zs cap G lo m hi P (64, 128, p) (192 + 4 * k, 64, 3) ra ma rc mc pc rs D) := by
    have hal : Below w1.heap.size w1 (w1.alloc (.cells #[.slice ra 16 rc, .int .u32 pc, .slice ma 2 mc] 29)) := (Below.refl _ _).alloc (Nat.le_refl _) _
    have h := hgu.below hal
    have k1 := h.o1
    have k2 := hgu.bx.lt
    have k3 := h.o5
    exact ⟨⟨⟨h.ct.cur, HC0.out.turn.trans h.ct.turn, HC0.out.lo, HC0.out.la⟩, h.wn, h.gs, Bk.new _ _ _ _ hP.symm, by omega, h.o2, h.o3, h.o4, by omega, h.rl, h.d0, h.d1, h.b8, h.mf⟩, (HR0.out.turn hgu.ct.turn (by omega)).below hal, by omega⟩
  have hp0 := hp.1
  have hp1 := hp.2
  have hk0 := hk.1
  have hk1 := hk.2
  have HSM : Hid ((Sm (64 : Int) ∧ Sm (128 : Int)) ∧ (Sm (192 + 4 * k) ∧ Sm (64 : Int)) ∧ 16 ≤ rc ∧ 2 ≤ mc) := by
    unfold Sm
    exact ⟨by omega, by omega, hrc, hmc⟩
  clear hgu hp hk HC0 HR0 hz0
  go_wp2_with fail
  revert HGV1
  generalize (w1.alloc (.cells #[.slice ra 16 rc, .int .u32 pc, .slice ma 2 mc] 29)) = v1
  try rw [hP]
  clear hP
  intro HGV1
  refine (draw_below _ B _ _ _ 22 HGV1.out.gu.ct.cur (by omega) (by omega)).mono ?_
  rintro e w2 ⟨y, rfl, hy0, hy1, hc2, ht2⟩
  have HGV : Hid (GV w w2 B a zs cap G lo m hi P (64, 128, p) (192 + 4 * k, 64, 3) ra ma rc mc pc rs D) := HGV1.out.turn hc2 ht2
  clear hc2 ht2 HGV1
  by_cases hx0 : y = 0
  · have hq0 : (y == 0) = true := by simp [hx0]
    clear hx0
    go_wp2_with fail
    refine (draw_pick _ B w2.heap.size _ _ _ [0, 62, 66, 192, 188, 4294967292] (HGV.out.gu.ct.cur.below ((Below.refl _ _).alloc (Nat.le_refl _) _)) (own_litD .i64 w2 3 _) (by have := HGV.out.gu.ct.cur.lt; omega) (by decide) (by decide)).mono ?_
    rintro e w3 ⟨y3, rfl, hm3, hc3, ht3⟩
    have HGV3 : Hid (GV w w3 B a zs cap G lo m hi P (64, 128, p) (192 + 4 * k, 64, 3) ra ma rc mc pc rs D) := (HGV.out.below ((Below.refl _ _).alloc (Nat.le_refl _) _)).turn hc3 ht3
    have hy3 : 0 ≤ y3 ∧ y3 ≤ 4294967295 := by simp at hm3; omega
    have ew := IntWalk.u32_in y3 hy3
    clear hc3 ht3 hm3 HGV
    have HGV : Hid (GV w w3 B a zs cap G lo m hi P (64, 128, p) (192 + 4 * k, 64, 3) ra ma rc mc pc rs D) := HGV3.out
    clear HGV3
    have kb := HGV.out.gu.bx
    have c0 := kb.cell 0 _ rfl
    have c1 := kb.cell 1 _ rfl
    have c2 := kb.cell 2 _ rfl
    have cf := kb.free
    clear kb
    have HGW : Hid (GF w (w3.setCell ⟨P, 1, none⟩ (.int .u32 y3)) B a zs cap G P ([(64, 128, p), (192 + 4 * k, 64, 3)]) ra ma 16 rc 2 mc y3 rs D) := by
      have h := HGV.out.cut (X' := w3.setCell ⟨P, 1, none⟩ (.int .u32 y3)) ((Betw.refl _ _ _).setCell (p := ⟨P, 1, none⟩) (Nat.le_refl _) (Nat.lt_succ_self _) _) (rl := 16) (n := 2) (pc' := y3) (HGV.out.gu.bx.set 1 _ (by simp) rfl) (by omega) (by omega) HSM.out.1 HSM.out.2.1 HSM.out.2.2.1 HSM.out.2.2.2
      have e : rs.take 16 = rs := List.take_of_length_le (by rw [HGV.out.gu.rl]; omega)
      rw [e] at h
      exact h
    clear HGV
    go_wp2
    clear c0 c1 c2 cf
    revert HGW
    generalize (w3.setCell ⟨P, 1, none⟩ (.int .u32 y3)) = wq
    intro HGW
    have HGF : Hid _ := HGW.out
    clear HGW
    have Hend : Hid (∀ X, Below wq.heap.size wq X → (CT w (((X.setCell ⟨w.heap.size, 0, none⟩ (.slice ra 16 rc)).setCell ⟨w.heap.size, 1, none⟩ (.int .u32 y3)).setCell ⟨w.heap.size, 2, none⟩ (.slice ma 2 mc)) B a zs cap ∧ (∀ (l h : Nat) (Y : World), h ≤ w.heap.size → Betw l h (((X.setCell ⟨w.heap.size, 0, none⟩ (.slice ra 16 rc)).setCell ⟨w.heap.size, 1, none⟩ (.int .u32 y3)).setCell ⟨w.heap.size, 2, none⟩ (.slice ma 2 mc)) Y → ASeg Y (some ⟨G, 0, none⟩) ([(64, 128, p), (192 + 4 * k, 64, 3)]) ∧ XGSeg Y ra ma rs 2 D)) ∧ Bk (((X.setCell ⟨w.heap.size, 0, none⟩ (.slice ra 16 rc)).setCell ⟨w.heap.size, 1, none⟩ (.int .u32 y3)).setCell ⟨w.heap.size, 2, none⟩ (.slice ma 2 mc)) w.heap.size #[.slice ra 16 rc, .int .u32 y3, .slice ma 2 mc]) := fun X hX => by
      have h := HGF.out.below hX
      have hbt : Betw w.heap.size (w.heap.size + 1) X (((X.setCell ⟨w.heap.size, 0, none⟩ (.slice ra 16 rc)).setCell ⟨w.heap.size, 1, none⟩ (.int .u32 y3)).setCell ⟨w.heap.size, 2, none⟩ (.slice ma 2 mc)) := (((Betw.refl _ _ _).setCell (p := ⟨w.heap.size, 0, none⟩) (Nat.le_refl _) (Nat.lt_succ_self _) _).setCell (p := ⟨w.heap.size, 1, none⟩) (Nat.le_refl _) (Nat.lt_succ_self _) _).setCell (p := ⟨w.heap.size, 2, none⟩) (Nat.le_refl _) (Nat.lt_succ_self _) _
      refine ⟨⟨h.ct.far (hbt.below (Nat.le_refl _) h.ct.turn.size), fun l h' Y hh hY => ?_⟩, ((h.r3.set 0 _ (by simp) rfl).set 1 _ (by simp) rfl).set 2 _ (by simp) rfl⟩
      exact h.kp 0 (w.heap.size + 1) Y (Nat.le_refl _) ⟨hY.os.trans hbt.os, hY.tape.trans hbt.tape, hY.output.trans hbt.output, Nat.le_trans hbt.size hY.size, fun k hk ho => (hY.block k (Nat.lt_of_lt_of_le hk hbt.size) (by omega)).trans (hbt.block k hk (by omega))⟩
    have hPRE0 : Below wq.heap.size wq wq.drew := (Below.refl _ _).drew
    refine wp_region_inv (by kernel_rfl) (by kernel_rfl) (fun A ℓ a' w' => ∃ (x56 x57 x2 : Value), a' = (((A.put (some 56) x56).put (some 57) x57).put (some 2) x2) ∧ Rh15 (fun w' => Below wq.heap.size wq w') (fun w' => (CT w w' B a zs cap ∧ (∀ (l h : Nat) (Y : World), h ≤ w.heap.size → Betw l h w' Y → ASeg Y (some ⟨G, 0, none⟩) ([(64, 128, p), (192 + 4 * k, 64, 3)]) ∧ XGSeg Y ra ma rs 2 D)) ∧ Bk w' w.heap.size #[.slice ra 16 rc, .int .u32 y3, .slice ma 2 mc]) (.slice (some ⟨G, 0, none⟩) 2 2) (gst ra 16 rc y3 ma 2 mc) w' (ℓ 0) (ℓ 1) (ℓ 2) (ℓ 3) x56 x57 x2) ?_ ?_ ?_ ?_
    · exact ⟨undef, undef, (.slice none 0 0), (by simp only [Act.put, List.setIfInBounds_toArray, List.set_cons_zero, List.set_cons_succ]), ⟨fun _ => hPRE0, (fun g => by cases g), (fun g => by cases g), (fun g => by cases g), (fun g => by cases g), (fun g => by cases g), (fun g => by cases g), (fun g => by cases g), (fun g => by cases g), (fun g => by cases g)⟩⟩
    · intro ℓ a' w' hI hall
      obtain ⟨x56, x57, x2, rfl, hr⟩ := hI
      have hall' : ∀ i, i < 4 → ℓ i = true := hall
      obtain rfl := hr.f0 (hall' 0 (by decide))
      obtain rfl := hr.f1 (hall' 1 (by decide))
      obtain rfl := hr.f2 (hall' 2 (by decide))
      have HPST := hr.pst (hall' 3 (by decide))
      clear hall hall' hr
      simp only [Act.put, List.setIfInBounds_toArray, List.set_cons_zero, List.set_cons_succ]
      obtain ⟨hg, hb⟩ := HPST
      have n0 := hb.cell 0 _ rfl
      have n1 := hb.cell 1 _ rfl
      have n2 := hb.cell 2 _ rfl
      have HGG : Hid _ := hg
      clear hg hb
      go_wp2
      exact bodyPost_ret (v := .tuple #[.slice (some ⟨G, 0, none⟩) 2 2, gst ra 16 rc y3 ma 2 mc]) (by simp [results, Try.results13, go_sem, n0, n1, n2]) rfl ⟨_, _, _, _, _, _, _, _, _, _, _, rfl, HGG.out.1, HGG.out.2, HGF.out.gt⟩
    · intro ℓ a' w' i o hI ho hi hL hdep K hK
      obtain ⟨x56, x57, x2, rfl, hr⟩ := hI
      have hi7 : i < 4 := hi
      have hcs : i = 0 ∨ i = 1 ∨ i = 2 ∨ i = 3 := by omega
      clear hi hi7
      rcases hcs with rfl | rfl | rfl | rfl
      · obtain rfl := Option.some.inj ho
        clear hdep ho
        revert hK
        intro hK
        rw [if_pos (by rfl)]
        try simp only [Act.put, List.setIfInBounds_toArray, List.set_cons_zero, List.set_cons_succ]
        go_simp
        exact hK.out _ _ (fun j => if j = 0 then true else ℓ j) ⟨.slice (some ⟨G, 0, none⟩) 2 2, x57, x2, (by simp only [Act.put, List.setIfInBounds_toArray, List.set_cons_zero, List.set_cons_succ]), ⟨hr.pre, hr.pst, (fun _ => rfl), (fun _ => trivial), hr.f1, hr.c1, hr.f2, (fun z => ⟨rfl, trivial⟩), hr.f3, hr.c3⟩⟩ (if_pos rfl) (fun j hj => if_neg hj)
      · obtain rfl := Option.some.inj ho
        clear hdep ho
        have hl : ℓ 3 = false := by
          cases h7 : ℓ 3
          · rfl
          · have := (hr.c3 h7).1; rw [this] at hL; cases hL
        have hp := hr.pre hl
        revert hK
        have kq := (HGF.out.below hp).bx
        have q0 := kq.cell 0 _ rfl
        have q1 := kq.cell 1 _ rfl
        have q2 := kq.cell 2 _ rfl
        clear kq
        intro hK
        rw [if_pos (by rfl)]
        try simp only [Act.put, List.setIfInBounds_toArray, List.set_cons_zero, List.set_cons_succ]
        go_simp
        exact hK.out _ _ (fun j => if j = 1 then true else ℓ j) ⟨x56, gst ra 16 rc y3 ma 2 mc, x2, (by simp only [Act.put, List.setIfInBounds_toArray, List.set_cons_zero, List.set_cons_succ]), ⟨hr.pre, hr.pst, hr.f0, hr.c0, (fun _ => rfl), (fun _ => trivial), hr.f2, hr.c2, hr.f3, (fun z => ⟨rfl, trivial⟩)⟩⟩ (if_pos rfl) (fun j hj => if_neg hj)
      · obtain rfl := Option.some.inj ho
        have g0 : ℓ 0 = true := hdep { on := 0, ground := Ground.data } (by simp) rfl
        clear hdep ho
        revert hK
        obtain rfl := hr.f0 g0
        intro hK
        rw [if_pos (by rfl)]
        try simp only [Act.put, List.setIfInBounds_toArray, List.set_cons_zero, List.set_cons_succ]
        go_simp
        exact hK.out _ _ (fun j => if j = 2 then true else ℓ j) ⟨.slice (some ⟨G, 0, none⟩) 2 2, x57, .slice (some ⟨G, 0, none⟩) 2 2, (by simp only [Act.put, List.setIfInBounds_toArray, List.set_cons_zero, List.set_cons_succ]), ⟨hr.pre, hr.pst, hr.f0, hr.c0, hr.f1, hr.c1, (fun _ => rfl), (fun _ => ⟨g0, trivial⟩), hr.f3, hr.c3⟩⟩ (if_pos rfl) (fun j hj => if_neg hj)
      · obtain rfl := Option.some.inj ho
        have g1 : ℓ 1 = true := hdep { on := 1, ground := Ground.data } (by simp) rfl
        clear hdep ho
        have hp := hr.pre hL
        revert hK
        obtain rfl := hr.f1 g1
        have kq := (HGF.out.below hp).r3
        have q0 := kq.cell 0 _ rfl
        have q1 := kq.cell 1 _ rfl
        have q2 := kq.cell 2 _ rfl
        have qf := kq.free
        have hq := Hend.out _ hp
        clear kq
        intro hK
        have HQq : Hid _ := hq
        clear hq hp
        rw [if_pos (by rfl)]
        try simp only [Act.put, List.setIfInBounds_toArray, List.set_cons_zero, List.set_cons_succ]
        go_simp
        exact hK.out _ _ (fun j => if j = 3 then true else ℓ j) ⟨x56, gst ra 16 rc y3 ma 2 mc, x2, (by simp only [Act.put, List.setIfInBounds_toArray, List.set_cons_zero, List.set_cons_succ]), ⟨(fun z => by cases z), (fun _ => HQq.out), hr.f0, hr.c0, hr.f1, hr.c1, hr.f2, hr.c2, (fun _ => trivial), (fun _ => ⟨g1, trivial⟩)⟩⟩ (if_pos rfl) (fun j hj => if_neg hj)
    · rintro a' w' ℓ ℓ' hℓ hI
      rw [← show ℓ = ℓ' from funext hℓ]
      exact hI
  · have hq0 : (y == 0) = false := beq_eq_false_iff_ne.2 hx0
    clear hx0
    by_cases hx1 : y = 1
    · have hq1 : (y == 1) = true := by simp [hx1]
      clear hx1
      have kb := HGV.out.gu.bx
      have c0 := kb.cell 0 _ rfl
      have c1 := kb.cell 1 _ rfl
      have c2 := kb.cell 2 _ rfl
      have cf := kb.free
      clear kb
      have hsl := slice_to25 ra 16 rc 15 (by have := HSM.out.2.2.1; omega)
      have HGW : Hid (GF w (w2.setCell ⟨P, 0, none⟩ (.slice ra 15 rc)) B a zs cap G P ([(64, 128, p), (192 + 4 * k, 64, 3)]) ra ma 15 rc 2 mc pc (rs.take 15) D) := HGV.out.cut (X' := w2.setCell ⟨P, 0, none⟩ (.slice ra 15 rc)) ((Betw.refl _ _ _).setCell (p := ⟨P, 0, none⟩) (Nat.le_refl _) (Nat.lt_succ_self _) _) (rl := 15) (n := 2) (pc' := pc) (HGV.out.gu.bx.set 0 _ (by simp) rfl) (by omega) (by omega) HSM.out.1 HSM.out.2.1 HSM.out.2.2.1 HSM.out.2.2.2
      clear HGV
      go_wp2
      clear c0 c1 c2 cf hsl
      revert HGW
      generalize (w2.setCell ⟨P, 0, none⟩ (.slice ra 15 rc)) = wq
      intro HGW
      have HGF : Hid _ := HGW.out
      clear HGW
      have Hend : Hid (∀ X, Below wq.heap.size wq X → (CT w (((X.setCell ⟨w.heap.size, 0, none⟩ (.slice ra 15 rc)).setCell ⟨w.heap.size, 1, none⟩ (.int .u32 pc)).setCell ⟨w.heap.size, 2, none⟩ (.slice ma 2 mc)) B a zs cap ∧ (∀ (l h : Nat) (Y : World), h ≤ w.heap.size → Betw l h (((X.setCell ⟨w.heap.size, 0, none⟩ (.slice ra 15 rc)).setCell ⟨w.heap.size, 1, none⟩ (.int .u32 pc)).setCell ⟨w.heap.size, 2, none⟩ (.slice ma 2 mc)) Y → ASeg Y (some ⟨G, 0, none⟩) ([(64, 128, p), (192 + 4 * k, 64, 3)]) ∧ XGSeg Y ra ma (rs.take 15) 2 D)) ∧ Bk (((X.setCell ⟨w.heap.size, 0, none⟩ (.slice ra 15 rc)).setCell ⟨w.heap.size, 1, none⟩ (.int .u32 pc)).setCell ⟨w.heap.size, 2, none⟩ (.slice ma 2 mc)) w.heap.size #[.slice ra 15 rc, .int .u32 pc, .slice ma 2 mc]) := fun X hX => by
        have h := HGF.out.below hX
        have hbt : Betw w.heap.size (w.heap.size + 1) X (((X.setCell ⟨w.heap.size, 0, none⟩ (.slice ra 15 rc)).setCell ⟨w.heap.size, 1, none⟩ (.int .u32 pc)).setCell ⟨w.heap.size, 2, none⟩ (.slice ma 2 mc)) := (((Betw.refl _ _ _).setCell (p := ⟨w.heap.size, 0, none⟩) (Nat.le_refl _) (Nat.lt_succ_self _) _).setCell (p := ⟨w.heap.size, 1, none⟩) (Nat.le_refl _) (Nat.lt_succ_self _) _).setCell (p := ⟨w.heap.size, 2, none⟩) (Nat.le_refl _) (Nat.lt_succ_self _) _
        refine ⟨⟨h.ct.far (hbt.below (Nat.le_refl _) h.ct.turn.size), fun l h' Y hh hY => ?_⟩, ((h.r3.set 0 _ (by simp) rfl).set 1 _ (by simp) rfl).set 2 _ (by simp) rfl⟩
        exact h.kp 0 (w.heap.size + 1) Y (Nat.le_refl _) ⟨hY.os.trans hbt.os, hY.tape.trans hbt.tape, hY.output.trans hbt.output, Nat.le_trans hbt.size hY.size, fun k hk ho => (hY.block k (Nat.lt_of_lt_of_le hk hbt.size) (by omega)).trans (hbt.block k hk (by omega))⟩
      have hPRE0 : Below wq.heap.size wq wq.drew := (Below.refl _ _).drew
      refine wp_region_inv (by kernel_rfl) (by kernel_rfl) (fun A ℓ a' w' => ∃ (x56 x57 x2 : Value), a' = (((A.put (some 56) x56).put (some 57) x57).put (some 2) x2) ∧ Rh15 (fun w' => Below wq.heap.size wq w') (fun w' => (CT w w' B a zs cap ∧ (∀ (l h : Nat) (Y : World), h ≤ w.heap.size → Betw l h w' Y → ASeg Y (some ⟨G, 0, none⟩) ([(64, 128, p), (192 + 4 * k, 64, 3)]) ∧ XGSeg Y ra ma (rs.take 15) 2 D)) ∧ Bk w' w.heap.size #[.slice ra 15 rc, .int .u32 pc, .slice ma 2 mc]) (.slice (some ⟨G, 0, none⟩) 2 2) (gst ra 15 rc pc ma 2 mc) w' (ℓ 0) (ℓ 1) (ℓ 2) (ℓ 3) x56 x57 x2) ?_ ?_ ?_ ?_
      · exact ⟨undef, undef, (.slice none 0 0), (by simp only [Act.put, List.setIfInBounds_toArray, List.set_cons_zero, List.set_cons_succ]), ⟨fun _ => hPRE0, (fun g => by cases g), (fun g => by cases g), (fun g => by cases g), (fun g => by cases g), (fun g => by cases g), (fun g => by cases g), (fun g => by cases g), (fun g => by cases g), (fun g => by cases g)⟩⟩
      · intro ℓ a' w' hI hall
        obtain ⟨x56, x57, x2, rfl, hr⟩ := hI
        have hall' : ∀ i, i < 4 → ℓ i = true := hall
        obtain rfl := hr.f0 (hall' 0 (by decide))
        obtain rfl := hr.f1 (hall' 1 (by decide))
        obtain rfl := hr.f2 (hall' 2 (by decide))
        have HPST := hr.pst (hall' 3 (by decide))
        clear hall hall' hr
        simp only [Act.put, List.setIfInBounds_toArray, List.set_cons_zero, List.set_cons_succ]
        obtain ⟨hg, hb⟩ := HPST
        have n0 := hb.cell 0 _ rfl
        have n1 := hb.cell 1 _ rfl
        have n2 := hb.cell 2 _ rfl
        have HGG : Hid _ := hg
        clear hg hb
        go_wp2
        exact bodyPost_ret (v := .tuple #[.slice (some ⟨G, 0, none⟩) 2 2, gst ra 15 rc pc ma 2 mc]) (by simp [results, Try.results13, go_sem, n0, n1, n2]) rfl ⟨_, _, _, _, _, _, _, _, _, _, _, rfl, HGG.out.1, HGG.out.2, HGF.out.gt⟩
      · intro ℓ a' w' i o hI ho hi hL hdep K hK
        obtain ⟨x56, x57, x2, rfl, hr⟩ := hI
        have hi7 : i < 4 := hi
        have hcs : i = 0 ∨ i = 1 ∨ i = 2 ∨ i = 3 := by omega
        clear hi hi7
        rcases hcs with rfl | rfl | rfl | rfl
        · obtain rfl := Option.some.inj ho
          clear hdep ho
          revert hK
          intro hK
          rw [if_pos (by rfl)]
          try simp only [Act.put, List.setIfInBounds_toArray, List.set_cons_zero, List.set_cons_succ]
          go_simp
          exact hK.out _ _ (fun j => if j = 0 then true else ℓ j) ⟨.slice (some ⟨G, 0, none⟩) 2 2, x57, x2, (by simp only [Act.put, List.setIfInBounds_toArray, List.set_cons_zero, List.set_cons_succ]), ⟨hr.pre, hr.pst, (fun _ => rfl), (fun _ => trivial), hr.f1, hr.c1, hr.f2, (fun z => ⟨rfl, trivial⟩), hr.f3, hr.c3⟩⟩ (if_pos rfl) (fun j hj => if_neg hj)
        · obtain rfl := Option.some.inj ho
          clear hdep ho
          have hl : ℓ 3 = false := by
            cases h7 : ℓ 3
            · rfl
            · have := (hr.c3 h7).1; rw [this] at hL; cases hL
          have hp := hr.pre hl
          revert hK
          have kq := (HGF.out.below hp).bx
          have q0 := kq.cell 0 _ rfl
          have q1 := kq.cell 1 _ rfl
          have q2 := kq.cell 2 _ rfl
          clear kq
          intro hK
          rw [if_pos (by rfl)]
          try simp only [Act.put, List.setIfInBounds_toArray, List.set_cons_zero, List.set_cons_succ]
          go_simp
          exact hK.out _ _ (fun j => if j = 1 then true else ℓ j) ⟨x56, gst ra 15 rc pc ma 2 mc, x2, (by simp only [Act.put, List.setIfInBounds_toArray, List.set_cons_zero, List.set_cons_succ]), ⟨hr.pre, hr.pst, hr.f0, hr.c0, (fun _ => rfl), (fun _ => trivial), hr.f2, hr.c2, hr.f3, (fun z => ⟨rfl, trivial⟩)⟩⟩ (if_pos rfl) (fun j hj => if_neg hj)
        · obtain rfl := Option.some.inj ho
          have g0 : ℓ 0 = true := hdep { on := 0, ground := Ground.data } (by simp) rfl
          clear hdep ho
          revert hK
          obtain rfl := hr.f0 g0
          intro hK
          rw [if_pos (by rfl)]
          try simp only [Act.put, List.setIfInBounds_toArray, List.set_cons_zero, List.set_cons_succ]
          go_simp
          exact hK.out _ _ (fun j => if j = 2 then true else ℓ j) ⟨.slice (some ⟨G, 0, none⟩) 2 2, x57, .slice (some ⟨G, 0, none⟩) 2 2, (by simp only [Act.put, List.setIfInBounds_toArray, List.set_cons_zero, List.set_cons_succ]), ⟨hr.pre, hr.pst, hr.f0, hr.c0, hr.f1, hr.c1, (fun _ => rfl), (fun _ => ⟨g0, trivial⟩), hr.f3, hr.c3⟩⟩ (if_pos rfl) (fun j hj => if_neg hj)
        · obtain rfl := Option.some.inj ho
          have g1 : ℓ 1 = true := hdep { on := 1, ground := Ground.data } (by simp) rfl
          clear hdep ho
          have hp := hr.pre hL
          revert hK
          obtain rfl := hr.f1 g1
          have kq := (HGF.out.below hp).r3
          have q0 := kq.cell 0 _ rfl
          have q1 := kq.cell 1 _ rfl
          have q2 := kq.cell 2 _ rfl
          have qf := kq.free
          have hq := Hend.out _ hp
          clear kq
          intro hK
          have HQq : Hid _ := hq
          clear hq hp
          rw [if_pos (by rfl)]
          try simp only [Act.put, List.setIfInBounds_toArray, List.set_cons_zero, List.set_cons_succ]
          go_simp
          exact hK.out _ _ (fun j => if j = 3 then true else ℓ j) ⟨x56, gst ra 15 rc pc ma 2 mc, x2, (by simp only [Act.put, List.setIfInBounds_toArray, List.set_cons_zero, List.set_cons_succ]), ⟨(fun z => by cases z), (fun _ => HQq.out), hr.f0, hr.c0, hr.f1, hr.c1, hr.f2, hr.c2, (fun _ => trivial), (fun _ => ⟨g1, trivial⟩)⟩⟩ (if_pos rfl) (fun j hj => if_neg hj)
      · rintro a' w' ℓ ℓ' hℓ hI
        rw [← show ℓ = ℓ' from funext hℓ]
        exact hI
    · have hq1 : (y == 1) = false := beq_eq_false_iff_ne.2 hx1
      clear hx1
      by_cases hx2 : y = 2
      · have hq2 : (y == 2) = true := by simp [hx2]
        clear hx2
        obtain ⟨R, off, hra, hh⟩ := HGV.out.reg
        subst hra
        obtain ⟨⟨u, hu⟩, hfz, hst⟩ := hh 0 (by omega)
        simp only [Nat.add_zero] at hu hfz hst
        have HST : Hid _ := hst 1
        clear hst hh
        have kb := HGV.out.gu.bx
        have c0 := kb.cell 0 _ rfl
        have c1 := kb.cell 1 _ rfl
        have c2 := kb.cell 2 _ rfl
        have cf := kb.free
        clear kb
        have HGW : Hid (GF w (w2.setCell ⟨R, off, none⟩ (.int .u32 1)) B a zs cap G P ([(64, 128, p), (192 + 4 * k, 64, 3)]) (some ⟨R, off, none⟩) ma 16 rc 2 mc pc (rs.set 0 1) D) := HST.out.same HSM.out.1 HSM.out.2.1 HSM.out.2.2.1 HSM.out.2.2.2
        clear HGV
        go_wp2
        clear c0 c1 c2 cf hu hfz HST
        revert HGW
        generalize (w2.setCell ⟨R, off, none⟩ (.int .u32 1)) = wq
        intro HGW
        have HGF : Hid _ := HGW.out
        clear HGW
        have Hend : Hid (∀ X, Below wq.heap.size wq X → (CT w (((X.setCell ⟨w.heap.size, 0, none⟩ (.slice (some ⟨R, off, none⟩) 16 rc)).setCell ⟨w.heap.size, 1, none⟩ (.int .u32 pc)).setCell ⟨w.heap.size, 2, none⟩ (.slice ma 2 mc)) B a zs cap ∧ (∀ (l h : Nat) (Y : World), h ≤ w.heap.size → Betw l h (((X.setCell ⟨w.heap.size, 0, none⟩ (.slice (some ⟨R, off, none⟩) 16 rc)).setCell ⟨w.heap.size, 1, none⟩ (.int .u32 pc)).setCell ⟨w.heap.size, 2, none⟩ (.slice ma 2 mc)) Y → ASeg Y (some ⟨G, 0, none⟩) ([(64, 128, p), (192 + 4 * k, 64, 3)]) ∧ XGSeg Y (some ⟨R, off, none⟩) ma (rs.set 0 1) 2 D)) ∧ Bk (((X.setCell ⟨w.heap.size, 0, none⟩ (.slice (some ⟨R, off, none⟩) 16 rc)).setCell ⟨w.heap.size, 1, none⟩ (.int .u32 pc)).setCell ⟨w.heap.size, 2, none⟩ (.slice ma 2 mc)) w.heap.size #[.slice (some ⟨R, off, none⟩) 16 rc, .int .u32 pc, .slice ma 2 mc]) := fun X hX => by
          have h := HGF.out.below hX
          have hbt : Betw w.heap.size (w.heap.size + 1) X (((X.setCell ⟨w.heap.size, 0, none⟩ (.slice (some ⟨R, off, none⟩) 16 rc)).setCell ⟨w.heap.size, 1, none⟩ (.int .u32 pc)).setCell ⟨w.heap.size, 2, none⟩ (.slice ma 2 mc)) := (((Betw.refl _ _ _).setCell (p := ⟨w.heap.size, 0, none⟩) (Nat.le_refl _) (Nat.lt_succ_self _) _).setCell (p := ⟨w.heap.size, 1, none⟩) (Nat.le_refl _) (Nat.lt_succ_self _) _).setCell (p := ⟨w.heap.size, 2, none⟩) (Nat.le_refl _) (Nat.lt_succ_self _) _
          refine ⟨⟨h.ct.far (hbt.below (Nat.le_refl _) h.ct.turn.size), fun l h' Y hh hY => ?_⟩, ((h.r3.set 0 _ (by simp) rfl).set 1 _ (by simp) rfl).set 2 _ (by simp) rfl⟩
          exact h.kp 0 (w.heap.size + 1) Y (Nat.le_refl _) ⟨hY.os.trans hbt.os, hY.tape.trans hbt.tape, hY.output.trans hbt.output, Nat.le_trans hbt.size hY.size, fun k hk ho => (hY.block k (Nat.lt_of_lt_of_le hk hbt.size) (by omega)).trans (hbt.block k hk (by omega))⟩
        have hPRE0 : Below wq.heap.size wq wq.drew := (Below.refl _ _).drew
        refine wp_region_inv (by kernel_rfl) (by kernel_rfl) (fun A ℓ a' w' => ∃ (x56 x57 x2 : Value), a' = (((A.put (some 56) x56).put (some 57) x57).put (some 2) x2) ∧ Rh15 (fun w' => Below wq.heap.size wq w') (fun w' => (CT w w' B a zs cap ∧ (∀ (l h : Nat) (Y : World), h ≤ w.heap.size → Betw l h w' Y → ASeg Y (some ⟨G, 0, none⟩) ([(64, 128, p), (192 + 4 * k, 64, 3)]) ∧ XGSeg Y (some ⟨R, off, none⟩) ma (rs.set 0 1) 2 D)) ∧ Bk w' w.heap.size #[.slice (some ⟨R, off, none⟩) 16 rc, .int .u32 pc, .slice ma 2 mc]) (.slice (some ⟨G, 0, none⟩) 2 2) (gst (some ⟨R, off, none⟩) 16 rc pc ma 2 mc) w' (ℓ 0) (ℓ 1) (ℓ 2) (ℓ 3) x56 x57 x2) ?_ ?_ ?_ ?_
        · exact ⟨undef, undef, (.slice none 0 0), (by simp only [Act.put, List.setIfInBounds_toArray, List.set_cons_zero, List.set_cons_succ]), ⟨fun _ => hPRE0, (fun g => by cases g), (fun g => by cases g), (fun g => by cases g), (fun g => by cases g), (fun g => by cases g), (fun g => by cases g), (fun g => by cases g), (fun g => by cases g), (fun g => by cases g)⟩⟩
        · intro ℓ a' w' hI hall
          obtain ⟨x56, x57, x2, rfl, hr⟩ := hI
          have hall' : ∀ i, i < 4 → ℓ i = true := hall
          obtain rfl := hr.f0 (hall' 0 (by decide))
          obtain rfl := hr.f1 (hall' 1 (by decide))
          obtain rfl := hr.f2 (hall' 2 (by decide))
          have HPST := hr.pst (hall' 3 (by decide))
          clear hall hall' hr
          simp only [Act.put, List.setIfInBounds_toArray, List.set_cons_zero, List.set_cons_succ]
          obtain ⟨hg, hb⟩ := HPST
          have n0 := hb.cell 0 _ rfl
          have n1 := hb.cell 1 _ rfl
          have n2 := hb.cell 2 _ rfl
          have HGG : Hid _ := hg
          clear hg hb
          go_wp2
          exact bodyPost_ret (v := .tuple #[.slice (some ⟨G, 0, none⟩) 2 2, gst (some ⟨R, off, none⟩) 16 rc pc ma 2 mc]) (by simp [results, Try.results13, go_sem, n0, n1, n2]) rfl ⟨_, _, _, _, _, _, _, _, _, _, _, rfl, HGG.out.1, HGG.out.2, HGF.out.gt⟩
        · intro ℓ a' w' i o hI ho hi hL hdep K hK
          obtain ⟨x56, x57, x2, rfl, hr⟩ := hI
          have hi7 : i < 4 := hi
          have hcs : i = 0 ∨ i = 1 ∨ i = 2 ∨ i = 3 := by omega
          clear hi hi7
          rcases hcs with rfl | rfl | rfl | rfl
          · obtain rfl := Option.some.inj ho
            clear hdep ho
            revert hK
            intro hK
            rw [if_pos (by rfl)]
            try simp only [Act.put, List.setIfInBounds_toArray, List.set_cons_zero, List.set_cons_succ]
            go_simp
            exact hK.out _ _ (fun j => if j = 0 then true else ℓ j) ⟨.slice (some ⟨G, 0, none⟩) 2 2, x57, x2, (by simp only [Act.put, List.setIfInBounds_toArray, List.set_cons_zero, List.set_cons_succ]), ⟨hr.pre, hr.pst, (fun _ => rfl), (fun _ => trivial), hr.f1, hr.c1, hr.f2, (fun z => ⟨rfl, trivial⟩), hr.f3, hr.c3⟩⟩ (if_pos rfl) (fun j hj => if_neg hj)
          · obtain rfl := Option.some.inj ho
            clear hdep ho
            have hl : ℓ 3 = false := by
              cases h7 : ℓ 3
              · rfl
              · have := (hr.c3 h7).1; rw [this] at hL; cases hL
            have hp := hr.pre hl
            revert hK
            have kq := (HGF.out.below hp).bx
            have q0 := kq.cell 0 _ rfl
            have q1 := kq.cell 1 _ rfl
            have q2 := kq.cell 2 _ rfl
            clear kq
            intro hK
            rw [if_pos (by rfl)]
            try simp only [Act.put, List.setIfInBounds_toArray, List.set_cons_zero, List.set_cons_succ]
            go_simp
            exact hK.out _ _ (fun j => if j = 1 then true else ℓ j) ⟨x56, gst (some ⟨R, off, none⟩) 16 rc pc ma 2 mc, x2, (by simp only [Act.put, List.setIfInBounds_toArray, List.set_cons_zero, List.set_cons_succ]), ⟨hr.pre, hr.pst, hr.f0, hr.c0, (fun _ => rfl), (fun _ => trivial), hr.f2, hr.c2, hr.f3, (fun z => ⟨rfl, trivial⟩)⟩⟩ (if_pos rfl) (fun j hj => if_neg hj)
          · obtain rfl := Option.some.inj ho
            have g0 : ℓ 0 = true := hdep { on := 0, ground := Ground.data } (by simp) rfl
            clear hdep ho
            revert hK
            obtain rfl := hr.f0 g0
            intro hK
            rw [if_pos (by rfl)]
            try simp only [Act.put, List.setIfInBounds_toArray, List.set_cons_zero, List.set_cons_succ]
            go_simp
            exact hK.out _ _ (fun j => if j = 2 then true else ℓ j) ⟨.slice (some ⟨G, 0, none⟩) 2 2, x57, .slice (some ⟨G, 0, none⟩) 2 2, (by simp only [Act.put, List.setIfInBounds_toArray, List.set_cons_zero, List.set_cons_succ]), ⟨hr.pre, hr.pst, hr.f0, hr.c0, hr.f1, hr.c1, (fun _ => rfl), (fun _ => ⟨g0, trivial⟩), hr.f3, hr.c3⟩⟩ (if_pos rfl) (fun j hj => if_neg hj)
          · obtain rfl := Option.some.inj ho
            have g1 : ℓ 1 = true := hdep { on := 1, ground := Ground.data } (by simp) rfl
            clear hdep ho
            have hp := hr.pre hL
            revert hK
            obtain rfl := hr.f1 g1
            have kq := (HGF.out.below hp).r3
            have q0 := kq.cell 0 _ rfl
            have q1 := kq.cell 1 _ rfl
            have q2 := kq.cell 2 _ rfl
            have qf := kq.free
            have hq := Hend.out _ hp
            clear kq
            intro hK
            have HQq : Hid _ := hq
            clear hq hp
            rw [if_pos (by rfl)]
            try simp only [Act.put, List.setIfInBounds_toArray, List.set_cons_zero, List.set_cons_succ]
            go_simp
            exact hK.out _ _ (fun j => if j = 3 then true else ℓ j) ⟨x56, gst (some ⟨R, off, none⟩) 16 rc pc ma 2 mc, x2, (by simp only [Act.put, List.setIfInBounds_toArray, List.set_cons_zero, List.set_cons_succ]), ⟨(fun z => by cases z), (fun _ => HQq.out), hr.f0, hr.c0, hr.f1, hr.c1, hr.f2, hr.c2, (fun _ => trivial), (fun _ => ⟨g1, trivial⟩)⟩⟩ (if_pos rfl) (fun j hj => if_neg hj)
        · rintro a' w' ℓ ℓ' hℓ hI
          rw [← show ℓ = ℓ' from funext hℓ]
          exact hI
      · have hq2 : (y == 2) = false := beq_eq_false_iff_ne.2 hx2
        clear hx2
        by_cases hx3 : y = 3
        · have hq3 : (y == 3) = true := by simp [hx3]
          clear hx3
          have kb := HGV.out.gu.bx
          have c0 := kb.cell 0 _ rfl
          have c1 := kb.cell 1 _ rfl
          have c2 := kb.cell 2 _ rfl
          have cf := kb.free
          clear kb
          have hsl := slice_to27 ma 2 mc 1 (by have := HSM.out.2.2.2; omega)
          have HGW : Hid (GF w (w2.setCell ⟨P, 2, none⟩ (.slice ma 1 mc)) B a zs cap G P ([(64, 128, p), (192 + 4 * k, 64, 3)]) ra ma 16 rc 1 mc pc rs D) := by
            have h := HGV.out.cut (X' := w2.setCell ⟨P, 2, none⟩ (.slice ma 1 mc)) ((Betw.refl _ _ _).setCell (p := ⟨P, 2, none⟩) (Nat.le_refl _) (Nat.lt_succ_self _) _) (rl := 16) (n := 1) (pc' := pc) (HGV.out.gu.bx.set 2 _ (by simp) rfl) (by omega) (by omega) HSM.out.1 HSM.out.2.1 HSM.out.2.2.1 HSM.out.2.2.2
            have e : rs.take 16 = rs := List.take_of_length_le (by rw [HGV.out.gu.rl]; omega)
            rw [e] at h
            exact h
          clear HGV
          go_wp2
          clear c0 c1 c2 cf hsl
          revert HGW
          generalize (w2.setCell ⟨P, 2, none⟩ (.slice ma 1 mc)) = wq
          intro HGW
          have HGF : Hid _ := HGW.out
          clear HGW
          have Hend : Hid (∀ X, Below wq.heap.size wq X → (CT w (((X.setCell ⟨w.heap.size, 0, none⟩ (.slice ra 16 rc)).setCell ⟨w.heap.size, 1, none⟩ (.int .u32 pc)).setCell ⟨w.heap.size, 2, none⟩ (.slice ma 1 mc)) B a zs cap ∧ (∀ (l h : Nat) (Y : World), h ≤ w.heap.size → Betw l h (((X.setCell ⟨w.heap.size, 0, none⟩ (.slice ra 16 rc)).setCell ⟨w.heap.size, 1, none⟩ (.int .u32 pc)).setCell ⟨w.heap.size, 2, none⟩ (.slice ma 1 mc)) Y → ASeg Y (some ⟨G, 0, none⟩) ([(64, 128, p), (192 + 4 * k, 64, 3)]) ∧ XGSeg Y ra ma rs 1 D)) ∧ Bk (((X.setCell ⟨w.heap.size, 0, none⟩ (.slice ra 16 rc)).setCell ⟨w.heap.size, 1, none⟩ (.int .u32 pc)).setCell ⟨w.heap.size, 2, none⟩ (.slice ma 1 mc)) w.heap.size #[.slice ra 16 rc, .int .u32 pc, .slice ma 1 mc]) := fun X hX => by
            have h := HGF.out.below hX
            have hbt : Betw w.heap.size (w.heap.size + 1) X (((X.setCell ⟨w.heap.size, 0, none⟩ (.slice ra 16 rc)).setCell ⟨w.heap.size, 1, none⟩ (.int .u32 pc)).setCell ⟨w.heap.size, 2, none⟩ (.slice ma 1 mc)) := (((Betw.refl _ _ _).setCell (p := ⟨w.heap.size, 0, none⟩) (Nat.le_refl _) (Nat.lt_succ_self _) _).setCell (p := ⟨w.heap.size, 1, none⟩) (Nat.le_refl _) (Nat.lt_succ_self _) _).setCell (p := ⟨w.heap.size, 2, none⟩) (Nat.le_refl _) (Nat.lt_succ_self _) _
            refine ⟨⟨h.ct.far (hbt.below (Nat.le_refl _) h.ct.turn.size), fun l h' Y hh hY => ?_⟩, ((h.r3.set 0 _ (by simp) rfl).set 1 _ (by simp) rfl).set 2 _ (by simp) rfl⟩
            exact h.kp 0 (w.heap.size + 1) Y (Nat.le_refl _) ⟨hY.os.trans hbt.os, hY.tape.trans hbt.tape, hY.output.trans hbt.output, Nat.le_trans hbt.size hY.size, fun k hk ho => (hY.block k (Nat.lt_of_lt_of_le hk hbt.size) (by omega)).trans (hbt.block k hk (by omega))⟩
          have hPRE0 : Below wq.heap.size wq wq.drew := (Below.refl _ _).drew
          refine wp_region_inv (by kernel_rfl) (by kernel_rfl) (fun A ℓ a' w' => ∃ (x56 x57 x2 : Value), a' = (((A.put (some 56) x56).put (some 57) x57).put (some 2) x2) ∧ Rh15 (fun w' => Below wq.heap.size wq w') (fun w' => (CT w w' B a zs cap ∧ (∀ (l h : Nat) (Y : World), h ≤ w.heap.size → Betw l h w' Y → ASeg Y (some ⟨G, 0, none⟩) ([(64, 128, p), (192 + 4 * k, 64, 3)]) ∧ XGSeg Y ra ma rs 1 D)) ∧ Bk w' w.heap.size #[.slice ra 16 rc, .int .u32 pc, .slice ma 1 mc]) (.slice (some ⟨G, 0, none⟩) 2 2) (gst ra 16 rc pc ma 1 mc) w' (ℓ 0) (ℓ 1) (ℓ 2) (ℓ 3) x56 x57 x2) ?_ ?_ ?_ ?_
          · exact ⟨undef, undef, (.slice none 0 0), (by simp only [Act.put, List.setIfInBounds_toArray, List.set_cons_zero, List.set_cons_succ]), ⟨fun _ => hPRE0, (fun g => by cases g), (fun g => by cases g), (fun g => by cases g), (fun g => by cases g), (fun g => by cases g), (fun g => by cases g), (fun g => by cases g), (fun g => by cases g), (fun g => by cases g)⟩⟩
          · intro ℓ a' w' hI hall
            obtain ⟨x56, x57, x2, rfl, hr⟩ := hI
            have hall' : ∀ i, i < 4 → ℓ i = true := hall
            obtain rfl := hr.f0 (hall' 0 (by decide))
            obtain rfl := hr.f1 (hall' 1 (by decide))
            obtain rfl := hr.f2 (hall' 2 (by decide))
            have HPST := hr.pst (hall' 3 (by decide))
            clear hall hall' hr
            simp only [Act.put, List.setIfInBounds_toArray, List.set_cons_zero, List.set_cons_succ]
            obtain ⟨hg, hb⟩ := HPST
            have n0 := hb.cell 0 _ rfl
            have n1 := hb.cell 1 _ rfl
            have n2 := hb.cell 2 _ rfl
            have HGG : Hid _ := hg
            clear hg hb
            go_wp2
            exact bodyPost_ret (v := .tuple #[.slice (some ⟨G, 0, none⟩) 2 2, gst ra 16 rc pc ma 1 mc]) (by simp [results, Try.results13, go_sem, n0, n1, n2]) rfl ⟨_, _, _, _, _, _, _, _, _, _, _, rfl, HGG.out.1, HGG.out.2, HGF.out.gt⟩
          · intro ℓ a' w' i o hI ho hi hL hdep K hK
            obtain ⟨x56, x57, x2, rfl, hr⟩ := hI
            have hi7 : i < 4 := hi
            have hcs : i = 0 ∨ i = 1 ∨ i = 2 ∨ i = 3 := by omega
            clear hi hi7
            rcases hcs with rfl | rfl | rfl | rfl
            · obtain rfl := Option.some.inj ho
              clear hdep ho
              revert hK
              intro hK
              rw [if_pos (by rfl)]
              try simp only [Act.put, List.setIfInBounds_toArray, List.set_cons_zero, List.set_cons_succ]
              go_simp
              exact hK.out _ _ (fun j => if j = 0 then true else ℓ j) ⟨.slice (some ⟨G, 0, none⟩) 2 2, x57, x2, (by simp only [Act.put, List.setIfInBounds_toArray, List.set_cons_zero, List.set_cons_succ]), ⟨hr.pre, hr.pst, (fun _ => rfl), (fun _ => trivial), hr.f1, hr.c1, hr.f2, (fun z => ⟨rfl, trivial⟩), hr.f3, hr.c3⟩⟩ (if_pos rfl) (fun j hj => if_neg hj)
            · obtain rfl := Option.some.inj ho
              clear hdep ho
              have hl : ℓ 3 = false := by
                cases h7 : ℓ 3
                · rfl
                · have := (hr.c3 h7).1; rw [this] at hL; cases hL
              have hp := hr.pre hl
              revert hK
              have kq := (HGF.out.below hp).bx
              have q0 := kq.cell 0 _ rfl
              have q1 := kq.cell 1 _ rfl
              have q2 := kq.cell 2 _ rfl
              clear kq
              intro hK
              rw [if_pos (by rfl)]
              try simp only [Act.put, List.setIfInBounds_toArray, List.set_cons_zero, List.set_cons_succ]
              go_simp
              exact hK.out _ _ (fun j => if j = 1 then true else ℓ j) ⟨x56, gst ra 16 rc pc ma 1 mc, x2, (by simp only [Act.put, List.setIfInBounds_toArray, List.set_cons_zero, List.set_cons_succ]), ⟨hr.pre, hr.pst, hr.f0, hr.c0, (fun _ => rfl), (fun _ => trivial), hr.f2, hr.c2, hr.f3, (fun z => ⟨rfl, trivial⟩)⟩⟩ (if_pos rfl) (fun j hj => if_neg hj)
            · obtain rfl := Option.some.inj ho
              have g0 : ℓ 0 = true := hdep { on := 0, ground := Ground.data } (by simp) rfl
              clear hdep ho
              revert hK
              obtain rfl := hr.f0 g0
              intro hK
              rw [if_pos (by rfl)]
              try simp only [Act.put, List.setIfInBounds_toArray, List.set_cons_zero, List.set_cons_succ]
              go_simp
              exact hK.out _ _ (fun j => if j = 2 then true else ℓ j) ⟨.slice (some ⟨G, 0, none⟩) 2 2, x57, .slice (some ⟨G, 0, none⟩) 2 2, (by simp only [Act.put, List.setIfInBounds_toArray, List.set_cons_zero, List.set_cons_succ]), ⟨hr.pre, hr.pst, hr.f0, hr.c0, hr.f1, hr.c1, (fun _ => rfl), (fun _ => ⟨g0, trivial⟩), hr.f3, hr.c3⟩⟩ (if_pos rfl) (fun j hj => if_neg hj)
            · obtain rfl := Option.some.inj ho
              have g1 : ℓ 1 = true := hdep { on := 1, ground := Ground.data } (by simp) rfl
              clear hdep ho
              have hp := hr.pre hL
              revert hK
              obtain rfl := hr.f1 g1
              have kq := (HGF.out.below hp).r3
              have q0 := kq.cell 0 _ rfl
              have q1 := kq.cell 1 _ rfl
              have q2 := kq.cell 2 _ rfl
              have qf := kq.free
              have hq := Hend.out _ hp
              clear kq
              intro hK
              have HQq : Hid _ := hq
              clear hq hp
              rw [if_pos (by rfl)]
              try simp only [Act.put, List.setIfInBounds_toArray, List.set_cons_zero, List.set_cons_succ]
              go_simp
              exact hK.out _ _ (fun j => if j = 3 then true else ℓ j) ⟨x56, gst ra 16 rc pc ma 1 mc, x2, (by simp only [Act.put, List.setIfInBounds_toArray, List.set_cons_zero, List.set_cons_succ]), ⟨(fun z => by cases z), (fun _ => HQq.out), hr.f0, hr.c0, hr.f1, hr.c1, hr.f2, hr.c2, (fun _ => trivial), (fun _ => ⟨g1, trivial⟩)⟩⟩ (if_pos rfl) (fun j hj => if_neg hj)
          · rintro a' w' ℓ ℓ' hℓ hI
            rw [← show ℓ = ℓ' from funext hℓ]
            exact hI
        · have hq3 : (y == 3) = false := beq_eq_false_iff_ne.2 hx3
          clear hx3
          by_cases hx4 : y = 4
          · have hq4 : (y == 4) = true := by simp [hx4]
            clear hx4
            have HV4 : Hid (GV w w2.drew B a zs cap G lo m hi P (64, 128, p) (192 + 4 * k, 64, 3) ra ma rc mc pc rs D) := HGV.out.below (Below.refl _ _).drew
            obtain ⟨b2, o2, bi, oi, ci, hma, hcl, hci, hfz, D', hgf⟩ := HV4.out.row HSM.out.1 HSM.out.2.1 HSM.out.2.2.1 HSM.out.2.2.2
            subst hma
            have HG4 : Hid (GF w (w2.drew.setCell ⟨b2, o2 + 1, none⟩ (.slice (some ⟨bi, oi, none⟩) 63 ci)) B a zs cap G P [(64, 128, p), (192 + 4 * k, 64, 3)] ra (some ⟨b2, o2, none⟩) 16 rc 2 mc pc rs D') := hgf
            have HB4 : Hid (Bk w2.drew P #[.slice ra 16 rc, .int .u32 pc, .slice (some ⟨b2, o2, none⟩) 2 mc]) := HV4.out.gu.bx
            clear hgf HGV HV4
            go_wp2
            refine wp_region_inv (by kernel_rfl) (by kernel_rfl) (fun A ℓ a' w' => ∃ (x39 x40 x41 x42 x43 x44 x45 x46 : Value), a' = ((((((((A.put (some 39) x39).put (some 40) x40).put (some 41) x41).put (some 42) x42).put (some 43) x43).put (some 44) x44).put (some 45) x45).put (some 46) x46) ∧ Rh12 (fun w' => w' = w2.drew) (fun w' => GF w w' B a zs cap G P [(64, 128, p), (192 + 4 * k, 64, 3)] ra (some ⟨b2, o2, none⟩) 16 rc 2 mc pc rs D') (.pointer (some ⟨P, 2, none⟩)) (.slice (some ⟨b2, o2, none⟩) 2 mc) (.pointer (some ⟨b2, o2 + 1, none⟩)) (.slice (some ⟨bi, oi, none⟩) 64 ci) (.slice (some ⟨bi, oi, none⟩) 63 ci) w' (ℓ 0) (ℓ 1) (ℓ 2) (ℓ 3) (ℓ 4) (ℓ 5) (ℓ 6) (ℓ 7) (ℓ 8) x39 x40 x41 x42 x43 x44 x45 x46) ?_ ?_ ?_ ?_
            · exact ⟨undef, undef, undef, undef, undef, undef, undef, undef, (by simp only [Act.put, List.setIfInBounds_toArray, List.set_cons_zero, List.set_cons_succ]), ⟨fun _ => rfl, (fun g => by cases g), (fun g => by cases g), (fun g => by cases g), (fun g => by cases g), (fun g => by cases g), (fun g => by cases g), (fun g => by cases g), (fun g => by cases g), (fun g => by cases g), (fun g => by cases g), (fun g => by cases g), (fun g => by cases g), (fun g => by cases g), (fun g => by cases g), (fun g => by cases g), (fun g => by cases g), (fun g => by cases g), (fun g => by cases g), (fun g => by cases g)⟩⟩
            · intro ℓ a' w' hI hall
              obtain ⟨x39, x40, x41, x42, x43, x44, x45, x46, rfl, hr⟩ := hI
              have hall' : ∀ i, i < 9 → ℓ i = true := hall
              obtain rfl := hr.f0 (hall' 0 (by decide))
              obtain rfl := hr.f1 (hall' 1 (by decide))
              obtain rfl := hr.f2 (hall' 2 (by decide))
              obtain rfl := hr.f3 (hall' 3 (by decide))
              obtain rfl := hr.f4 (hall' 4 (by decide))
              obtain rfl := hr.f5 (hall' 5 (by decide))
              obtain rfl := hr.f6 (hall' 6 (by decide))
              obtain rfl := hr.f7 (hall' 7 (by decide))
              have HPST := hr.pst (hall' 8 (by decide))
              clear hall hall' hr
              simp only [Act.put, List.setIfInBounds_toArray, List.set_cons_zero, List.set_cons_succ]
              have HGF : Hid (GF w w' B a zs cap G P [(64, 128, p), (192 + 4 * k, 64, 3)] ra (some ⟨b2, o2, none⟩) 16 rc 2 mc pc rs D') := HPST
              clear HPST HG4 HB4 hcl hfz hci
              go_wp2
              revert HGF
              generalize w' = wq
              intro HGF
              have Hend : Hid (∀ X, Below wq.heap.size wq X → (CT w (((X.setCell ⟨w.heap.size, 0, none⟩ (.slice ra 16 rc)).setCell ⟨w.heap.size, 1, none⟩ (.int .u32 pc)).setCell ⟨w.heap.size, 2, none⟩ (.slice (some ⟨b2, o2, none⟩) 2 mc)) B a zs cap ∧ (∀ (l h : Nat) (Y : World), h ≤ w.heap.size → Betw l h (((X.setCell ⟨w.heap.size, 0, none⟩ (.slice ra 16 rc)).setCell ⟨w.heap.size, 1, none⟩ (.int .u32 pc)).setCell ⟨w.heap.size, 2, none⟩ (.slice (some ⟨b2, o2, none⟩) 2 mc)) Y → ASeg Y (some ⟨G, 0, none⟩) ([(64, 128, p), (192 + 4 * k, 64, 3)]) ∧ XGSeg Y ra (some ⟨b2, o2, none⟩) rs 2 D')) ∧ Bk (((X.setCell ⟨w.heap.size, 0, none⟩ (.slice ra 16 rc)).setCell ⟨w.heap.size, 1, none⟩ (.int .u32 pc)).setCell ⟨w.heap.size, 2, none⟩ (.slice (some ⟨b2, o2, none⟩) 2 mc)) w.heap.size #[.slice ra 16 rc, .int .u32 pc, .slice (some ⟨b2, o2, none⟩) 2 mc]) := fun X hX => by
                have h := HGF.out.below hX
                have hbt : Betw w.heap.size (w.heap.size + 1) X (((X.setCell ⟨w.heap.size, 0, none⟩ (.slice ra 16 rc)).setCell ⟨w.heap.size, 1, none⟩ (.int .u32 pc)).setCell ⟨w.heap.size, 2, none⟩ (.slice (some ⟨b2, o2, none⟩) 2 mc)) := (((Betw.refl _ _ _).setCell (p := ⟨w.heap.size, 0, none⟩) (Nat.le_refl _) (Nat.lt_succ_self _) _).setCell (p := ⟨w.heap.size, 1, none⟩) (Nat.le_refl _) (Nat.lt_succ_self _) _).setCell (p := ⟨w.heap.size, 2, none⟩) (Nat.le_refl _) (Nat.lt_succ_self _) _
                refine ⟨⟨h.ct.far (hbt.below (Nat.le_refl _) h.ct.turn.size), fun l h' Y hh hY => ?_⟩, ((h.r3.set 0 _ (by simp) rfl).set 1 _ (by simp) rfl).set 2 _ (by simp) rfl⟩
                exact h.kp 0 (w.heap.size + 1) Y (Nat.le_refl _) ⟨hY.os.trans hbt.os, hY.tape.trans hbt.tape, hY.output.trans hbt.output, Nat.le_trans hbt.size hY.size, fun k hk ho => (hY.block k (Nat.lt_of_lt_of_le hk hbt.size) (by omega)).trans (hbt.block k hk (by omega))⟩
              have hPRE0 : Below wq.heap.size wq wq.drew := (Below.refl _ _).drew
              refine wp_region_inv (by kernel_rfl) (by kernel_rfl) (fun A ℓ a' w' => ∃ (x56 x57 x2 : Value), a' = (((A.put (some 56) x56).put (some 57) x57).put (some 2) x2) ∧ Rh15 (fun w' => Below wq.heap.size wq w') (fun w' => (CT w w' B a zs cap ∧ (∀ (l h : Nat) (Y : World), h ≤ w.heap.size → Betw l h w' Y → ASeg Y (some ⟨G, 0, none⟩) ([(64, 128, p), (192 + 4 * k, 64, 3)]) ∧ XGSeg Y ra (some ⟨b2, o2, none⟩) rs 2 D')) ∧ Bk w' w.heap.size #[.slice ra 16 rc, .int .u32 pc, .slice (some ⟨b2, o2, none⟩) 2 mc]) (.slice (some ⟨G, 0, none⟩) 2 2) (gst ra 16 rc pc (some ⟨b2, o2, none⟩) 2 mc) w' (ℓ 0) (ℓ 1) (ℓ 2) (ℓ 3) x56 x57 x2) ?_ ?_ ?_ ?_
              · exact ⟨undef, undef, (.slice none 0 0), (by simp only [Act.put, List.setIfInBounds_toArray, List.set_cons_zero, List.set_cons_succ]), ⟨fun _ => hPRE0, (fun g => by cases g), (fun g => by cases g), (fun g => by cases g), (fun g => by cases g), (fun g => by cases g), (fun g => by cases g), (fun g => by cases g), (fun g => by cases g), (fun g => by cases g)⟩⟩
              · intro ℓ a' w' hI hall
                obtain ⟨x56, x57, x2, rfl, hr⟩ := hI
                have hall' : ∀ i, i < 4 → ℓ i = true := hall
                obtain rfl := hr.f0 (hall' 0 (by decide))
                obtain rfl := hr.f1 (hall' 1 (by decide))
                obtain rfl := hr.f2 (hall' 2 (by decide))
                have HPST := hr.pst (hall' 3 (by decide))
                clear hall hall' hr
                simp only [Act.put, List.setIfInBounds_toArray, List.set_cons_zero, List.set_cons_succ]
                obtain ⟨hg, hb⟩ := HPST
                have n0 := hb.cell 0 _ rfl
                have n1 := hb.cell 1 _ rfl
                have n2 := hb.cell 2 _ rfl
                have HGG : Hid _ := hg
                clear hg hb
                go_wp2
                exact bodyPost_ret (v := .tuple #[.slice (some ⟨G, 0, none⟩) 2 2, gst ra 16 rc pc (some ⟨b2, o2, none⟩) 2 mc]) (by simp [results, Try.results13, go_sem, n0, n1, n2]) rfl ⟨_, _, _, _, _, _, _, _, _, _, _, rfl, HGG.out.1, HGG.out.2, HGF.out.gt⟩
              · intro ℓ a' w' i o hI ho hi hL hdep K hK
                obtain ⟨x56, x57, x2, rfl, hr⟩ := hI
                have hi7 : i < 4 := hi
                have hcs : i = 0 ∨ i = 1 ∨ i = 2 ∨ i = 3 := by omega
                clear hi hi7
                rcases hcs with rfl | rfl | rfl | rfl
                · obtain rfl := Option.some.inj ho
                  clear hdep ho
                  revert hK
                  intro hK
                  rw [if_pos (by rfl)]
                  try simp only [Act.put, List.setIfInBounds_toArray, List.set_cons_zero, List.set_cons_succ]
                  go_simp
                  exact hK.out _ _ (fun j => if j = 0 then true else ℓ j) ⟨.slice (some ⟨G, 0, none⟩) 2 2, x57, x2, (by simp only [Act.put, List.setIfInBounds_toArray, List.set_cons_zero, List.set_cons_succ]), ⟨hr.pre, hr.pst, (fun _ => rfl), (fun _ => trivial), hr.f1, hr.c1, hr.f2, (fun z => ⟨rfl, trivial⟩), hr.f3, hr.c3⟩⟩ (if_pos rfl) (fun j hj => if_neg hj)
                · obtain rfl := Option.some.inj ho
                  clear hdep ho
                  have hl : ℓ 3 = false := by
                    cases h7 : ℓ 3
                    · rfl
                    · have := (hr.c3 h7).1; rw [this] at hL; cases hL
                  have hp := hr.pre hl
                  revert hK
                  have kq := (HGF.out.below hp).bx
                  have q0 := kq.cell 0 _ rfl
                  have q1 := kq.cell 1 _ rfl
                  have q2 := kq.cell 2 _ rfl
                  clear kq
                  intro hK
                  rw [if_pos (by rfl)]
                  try simp only [Act.put, List.setIfInBounds_toArray, List.set_cons_zero, List.set_cons_succ]
                  go_simp
                  exact hK.out _ _ (fun j => if j = 1 then true else ℓ j) ⟨x56, gst ra 16 rc pc (some ⟨b2, o2, none⟩) 2 mc, x2, (by simp only [Act.put, List.setIfInBounds_toArray, List.set_cons_zero, List.set_cons_succ]), ⟨hr.pre, hr.pst, hr.f0, hr.c0, (fun _ => rfl), (fun _ => trivial), hr.f2, hr.c2, hr.f3, (fun z => ⟨rfl, trivial⟩)⟩⟩ (if_pos rfl) (fun j hj => if_neg hj)
                · obtain rfl := Option.some.inj ho
                  have g0 : ℓ 0 = true := hdep { on := 0, ground := Ground.data } (by simp) rfl
                  clear hdep ho
                  revert hK
                  obtain rfl := hr.f0 g0
                  intro hK
                  rw [if_pos (by rfl)]
                  try simp only [Act.put, List.setIfInBounds_toArray, List.set_cons_zero, List.set_cons_succ]
                  go_simp
                  exact hK.out _ _ (fun j => if j = 2 then true else ℓ j) ⟨.slice (some ⟨G, 0, none⟩) 2 2, x57, .slice (some ⟨G, 0, none⟩) 2 2, (by simp only [Act.put, List.setIfInBounds_toArray, List.set_cons_zero, List.set_cons_succ]), ⟨hr.pre, hr.pst, hr.f0, hr.c0, hr.f1, hr.c1, (fun _ => rfl), (fun _ => ⟨g0, trivial⟩), hr.f3, hr.c3⟩⟩ (if_pos rfl) (fun j hj => if_neg hj)
                · obtain rfl := Option.some.inj ho
                  have g1 : ℓ 1 = true := hdep { on := 1, ground := Ground.data } (by simp) rfl
                  clear hdep ho
                  have hp := hr.pre hL
                  revert hK
                  obtain rfl := hr.f1 g1
                  have kq := (HGF.out.below hp).r3
                  have q0 := kq.cell 0 _ rfl
                  have q1 := kq.cell 1 _ rfl
                  have q2 := kq.cell 2 _ rfl
                  have qf := kq.free
                  have hq := Hend.out _ hp
                  clear kq
                  intro hK
                  have HQq : Hid _ := hq
                  clear hq hp
                  rw [if_pos (by rfl)]
                  try simp only [Act.put, List.setIfInBounds_toArray, List.set_cons_zero, List.set_cons_succ]
                  go_simp
                  exact hK.out _ _ (fun j => if j = 3 then true else ℓ j) ⟨x56, gst ra 16 rc pc (some ⟨b2, o2, none⟩) 2 mc, x2, (by simp only [Act.put, List.setIfInBounds_toArray, List.set_cons_zero, List.set_cons_succ]), ⟨(fun z => by cases z), (fun _ => HQq.out), hr.f0, hr.c0, hr.f1, hr.c1, hr.f2, hr.c2, (fun _ => trivial), (fun _ => ⟨g1, trivial⟩)⟩⟩ (if_pos rfl) (fun j hj => if_neg hj)
              · rintro a' w' ℓ ℓ' hℓ hI
                rw [← show ℓ = ℓ' from funext hℓ]
                exact hI
            · intro ℓ a' w' i o hI ho hi hL hdep K hK
              obtain ⟨x39, x40, x41, x42, x43, x44, x45, x46, rfl, hr⟩ := hI
              have hi7 : i < 9 := hi
              have hcs : i = 0 ∨ i = 1 ∨ i = 2 ∨ i = 3 ∨ i = 4 ∨ i = 5 ∨ i = 6 ∨ i = 7 ∨ i = 8 := by omega
              clear hi hi7
              rcases hcs with rfl | rfl | rfl | rfl | rfl | rfl | rfl | rfl | rfl
              · obtain rfl := Option.some.inj ho
                clear hdep ho
                revert hK
                intro hK
                rw [if_pos (by rfl)]
                try simp only [Act.put, List.setIfInBounds_toArray, List.set_cons_zero, List.set_cons_succ]
                go_simp
                exact hK.out _ _ (fun j => if j = 0 then true else ℓ j) ⟨.pointer (some ⟨P, 2, none⟩), x40, x41, x42, x43, x44, x45, x46, (by simp only [Act.put, List.setIfInBounds_toArray, List.set_cons_zero, List.set_cons_succ]), ⟨hr.pre, hr.pst, (fun _ => rfl), (fun _ => trivial), hr.f1, (fun z => ⟨rfl, trivial⟩), hr.f2, hr.c2, hr.f3, hr.c3, hr.f4, hr.c4, hr.f5, hr.c5, hr.f6, hr.c6, hr.f7, hr.c7, hr.f8, hr.c8⟩⟩ (if_pos rfl) (fun j hj => if_neg hj)
              · obtain rfl := Option.some.inj ho
                have g0 : ℓ 0 = true := hdep { on := 0, ground := Ground.data } (by simp) rfl
                clear hdep ho
                have hl : ℓ 8 = false := by
                  cases h7 : ℓ 8
                  · rfl
                  · have := (hr.c7 (hr.c8 h7).2.1).1; rw [this] at hL; cases hL
                have hp := hr.pre hl
                revert hK
                obtain rfl := hr.f0 g0
                have hp2 : w' = w2.drew := hp
                subst hp2
                have q0 := HB4.out.cell 2 _ rfl
                intro hK
                rw [if_pos (by rfl)]
                try simp only [Act.put, List.setIfInBounds_toArray, List.set_cons_zero, List.set_cons_succ]
                go_simp
                exact hK.out _ _ (fun j => if j = 1 then true else ℓ j) ⟨.pointer (some ⟨P, 2, none⟩), .slice (some ⟨b2, o2, none⟩) 2 mc, x41, x42, x43, x44, x45, x46, (by simp only [Act.put, List.setIfInBounds_toArray, List.set_cons_zero, List.set_cons_succ]), ⟨hr.pre, hr.pst, hr.f0, hr.c0, (fun _ => rfl), (fun _ => ⟨g0, trivial⟩), hr.f2, hr.c2, hr.f3, hr.c3, hr.f4, hr.c4, hr.f5, hr.c5, hr.f6, hr.c6, hr.f7, (fun z => ⟨rfl, trivial⟩), hr.f8, hr.c8⟩⟩ (if_pos rfl) (fun j hj => if_neg hj)
              · obtain rfl := Option.some.inj ho
                clear hdep ho
                revert hK
                intro hK
                rw [if_pos (by rfl)]
                try simp only [Act.put, List.setIfInBounds_toArray, List.set_cons_zero, List.set_cons_succ]
                go_simp
                exact hK.out _ _ (fun j => if j = 2 then true else ℓ j) ⟨x39, x40, .pointer (some ⟨P, 2, none⟩), x42, x43, x44, x45, x46, (by simp only [Act.put, List.setIfInBounds_toArray, List.set_cons_zero, List.set_cons_succ]), ⟨hr.pre, hr.pst, hr.f0, hr.c0, hr.f1, hr.c1, (fun _ => rfl), (fun _ => trivial), hr.f3, (fun z => ⟨rfl, trivial⟩), hr.f4, hr.c4, hr.f5, hr.c5, hr.f6, hr.c6, hr.f7, hr.c7, hr.f8, hr.c8⟩⟩ (if_pos rfl) (fun j hj => if_neg hj)
              · obtain rfl := Option.some.inj ho
                have g2 : ℓ 2 = true := hdep { on := 2, ground := Ground.data } (by simp) rfl
                clear hdep ho
                have hl : ℓ 8 = false := by
                  cases h7 : ℓ 8
                  · rfl
                  · have := (hr.c4 (hr.c5 (hr.c6 (hr.c8 h7).1).1).1).1; rw [this] at hL; cases hL
                have hp := hr.pre hl
                revert hK
                obtain rfl := hr.f2 g2
                have hp2 : w' = w2.drew := hp
                subst hp2
                have q0 := HB4.out.cell 2 _ rfl
                intro hK
                rw [if_pos (by rfl)]
                try simp only [Act.put, List.setIfInBounds_toArray, List.set_cons_zero, List.set_cons_succ]
                go_simp
                exact hK.out _ _ (fun j => if j = 3 then true else ℓ j) ⟨x39, x40, .pointer (some ⟨P, 2, none⟩), .slice (some ⟨b2, o2, none⟩) 2 mc, x43, x44, x45, x46, (by simp only [Act.put, List.setIfInBounds_toArray, List.set_cons_zero, List.set_cons_succ]), ⟨hr.pre, hr.pst, hr.f0, hr.c0, hr.f1, hr.c1, hr.f2, hr.c2, (fun _ => rfl), (fun _ => ⟨g2, trivial⟩), hr.f4, (fun z => ⟨rfl, trivial⟩), hr.f5, hr.c5, hr.f6, hr.c6, hr.f7, hr.c7, hr.f8, hr.c8⟩⟩ (if_pos rfl) (fun j hj => if_neg hj)
              · obtain rfl := Option.some.inj ho
                have g3 : ℓ 3 = true := hdep { on := 3, ground := Ground.data } (by simp) rfl
                clear hdep ho
                revert hK
                obtain rfl := hr.f3 g3
                intro hK
                rw [if_pos (by rfl)]
                try simp only [Act.put, List.setIfInBounds_toArray, List.set_cons_zero, List.set_cons_succ]
                go_simp
                exact hK.out _ _ (fun j => if j = 4 then true else ℓ j) ⟨x39, x40, x41, .slice (some ⟨b2, o2, none⟩) 2 mc, .pointer (some ⟨b2, o2 + 1, none⟩), x44, x45, x46, (by simp only [Act.put, List.setIfInBounds_toArray, List.set_cons_zero, List.set_cons_succ]), ⟨hr.pre, hr.pst, hr.f0, hr.c0, hr.f1, hr.c1, hr.f2, hr.c2, hr.f3, hr.c3, (fun _ => rfl), (fun _ => ⟨g3, trivial⟩), hr.f5, (fun z => ⟨rfl, trivial⟩), hr.f6, hr.c6, hr.f7, hr.c7, hr.f8, hr.c8⟩⟩ (if_pos rfl) (fun j hj => if_neg hj)
              · obtain rfl := Option.some.inj ho
                have g4 : ℓ 4 = true := hdep { on := 4, ground := Ground.data } (by simp) rfl
                clear hdep ho
                have hl : ℓ 8 = false := by
                  cases h7 : ℓ 8
                  · rfl
                  · have := (hr.c6 (hr.c8 h7).1).1; rw [this] at hL; cases hL
                have hp := hr.pre hl
                revert hK
                obtain rfl := hr.f4 g4
                have hp2 : w' = w2.drew := hp
                subst hp2
                have q0 := hcl
                intro hK
                rw [if_pos (by rfl)]
                try simp only [Act.put, List.setIfInBounds_toArray, List.set_cons_zero, List.set_cons_succ]
                go_simp
                exact hK.out _ _ (fun j => if j = 5 then true else ℓ j) ⟨x39, x40, x41, x42, .pointer (some ⟨b2, o2 + 1, none⟩), .slice (some ⟨bi, oi, none⟩) 64 ci, x45, x46, (by simp only [Act.put, List.setIfInBounds_toArray, List.set_cons_zero, List.set_cons_succ]), ⟨hr.pre, hr.pst, hr.f0, hr.c0, hr.f1, hr.c1, hr.f2, hr.c2, hr.f3, hr.c3, hr.f4, hr.c4, (fun _ => rfl), (fun _ => ⟨g4, trivial⟩), hr.f6, (fun z => ⟨rfl, trivial⟩), hr.f7, hr.c7, hr.f8, hr.c8⟩⟩ (if_pos rfl) (fun j hj => if_neg hj)
              · obtain rfl := Option.some.inj ho
                have g5 : ℓ 5 = true := hdep { on := 5, ground := Ground.data } (by simp) rfl
                clear hdep ho
                revert hK
                obtain rfl := hr.f5 g5
                have hsl : ∀ w, (Instr.slice 22 (.slice (some ⟨bi, oi, none⟩) 64 ci) none (some (.int .i64 63)) none).run Try.prog w = .ok (.slice (some ⟨bi, oi, none⟩) 63 ci) w := fun w => slice_to22 (some ⟨bi, oi, none⟩) 64 ci 63 (by omega) w
                intro hK
                rw [if_pos (by rfl)]
                try simp only [Act.put, List.setIfInBounds_toArray, List.set_cons_zero, List.set_cons_succ]
                go_simp
                exact hK.out _ _ (fun j => if j = 6 then true else ℓ j) ⟨x39, x40, x41, x42, x43, .slice (some ⟨bi, oi, none⟩) 64 ci, .slice (some ⟨bi, oi, none⟩) 63 ci, x46, (by simp only [Act.put, List.setIfInBounds_toArray, List.set_cons_zero, List.set_cons_succ]), ⟨hr.pre, hr.pst, hr.f0, hr.c0, hr.f1, hr.c1, hr.f2, hr.c2, hr.f3, hr.c3, hr.f4, hr.c4, hr.f5, hr.c5, (fun _ => rfl), (fun _ => ⟨g5, trivial⟩), hr.f7, hr.c7, hr.f8, (fun z => ⟨rfl, (hr.c8 z).2.1, trivial⟩)⟩⟩ (if_pos rfl) (fun j hj => if_neg hj)
              · obtain rfl := Option.some.inj ho
                have g1 : ℓ 1 = true := hdep { on := 1, ground := Ground.data } (by simp) rfl
                clear hdep ho
                revert hK
                obtain rfl := hr.f1 g1
                intro hK
                rw [if_pos (by rfl)]
                try simp only [Act.put, List.setIfInBounds_toArray, List.set_cons_zero, List.set_cons_succ]
                go_simp
                exact hK.out _ _ (fun j => if j = 7 then true else ℓ j) ⟨x39, .slice (some ⟨b2, o2, none⟩) 2 mc, x41, x42, x43, x44, x45, .pointer (some ⟨b2, o2 + 1, none⟩), (by simp only [Act.put, List.setIfInBounds_toArray, List.set_cons_zero, List.set_cons_succ]), ⟨hr.pre, hr.pst, hr.f0, hr.c0, hr.f1, hr.c1, hr.f2, hr.c2, hr.f3, hr.c3, hr.f4, hr.c4, hr.f5, hr.c5, hr.f6, hr.c6, (fun _ => rfl), (fun _ => ⟨g1, trivial⟩), hr.f8, (fun z => ⟨(hr.c8 z).1, rfl, trivial⟩)⟩⟩ (if_pos rfl) (fun j hj => if_neg hj)
              · obtain rfl := Option.some.inj ho
                have g6 : ℓ 6 = true := hdep { on := 6, ground := Ground.data } (by simp) rfl
                have g7 : ℓ 7 = true := hdep { on := 7, ground := Ground.data } (by simp) rfl
                clear hdep ho
                have hp := hr.pre hL
                revert hK
                obtain rfl := hr.f6 g6
                obtain rfl := hr.f7 g7
                have hp2 : w' = w2.drew := hp
                subst hp2
                have q0 := hcl
                have q1 := hfz
                have hq := HG4.out
                intro hK
                have HQq : Hid _ := hq
                clear hq hp
                rw [if_pos (by rfl)]
                try simp only [Act.put, List.setIfInBounds_toArray, List.set_cons_zero, List.set_cons_succ]
                go_simp
                exact hK.out _ _ (fun j => if j = 8 then true else ℓ j) ⟨x39, x40, x41, x42, x43, x44, .slice (some ⟨bi, oi, none⟩) 63 ci, .pointer (some ⟨b2, o2 + 1, none⟩), (by simp only [Act.put, List.setIfInBounds_toArray, List.set_cons_zero, List.set_cons_succ]), ⟨(fun z => by cases z), (fun _ => HQq.out), hr.f0, hr.c0, hr.f1, hr.c1, hr.f2, hr.c2, hr.f3, hr.c3, hr.f4, hr.c4, hr.f5, hr.c5, hr.f6, hr.c6, hr.f7, hr.c7, (fun _ => trivial), (fun _ => ⟨g6, g7, trivial⟩)⟩⟩ (if_pos rfl) (fun j hj => if_neg hj)
            · rintro a' w' ℓ ℓ' hℓ hI
              rw [← show ℓ = ℓ' from funext hℓ]
              exact hI
          · have hq4 : (y == 4) = false := beq_eq_false_iff_ne.2 hx4
            clear hx4
            by_cases hx5 : y = 5
            · have hq5 : (y == 5) = true := by simp [hx5]
              clear hx5
              have e0 := HGV.out.gu.wn.cell 0 _ rfl
              have e3 := HGV.out.gu.wn.cell 3 _ rfl
              have ef := HGV.out.gu.wn.free
              have HGW : Hid (GF w (w2.setCell ⟨G, 3, none⟩ (.int .i64 64)) B a zs cap G P ([(64, 128, p), (64, 64, 3)]) ra ma 16 rc 2 mc pc rs D) := (HGV.out.win 64).same HSM.out.1 ⟨HSM.out.2.1.2, HSM.out.2.1.2⟩ HSM.out.2.2.1 HSM.out.2.2.2
              clear HGV
              go_wp2
              clear e0 e3 ef
              revert HGW
              generalize (w2.setCell ⟨G, 3, none⟩ (.int .i64 64)) = wq
              intro HGW
              have HGF : Hid _ := HGW.out
              clear HGW
              have Hend : Hid (∀ X, Below wq.heap.size wq X → (CT w (((X.setCell ⟨w.heap.size, 0, none⟩ (.slice ra 16 rc)).setCell ⟨w.heap.size, 1, none⟩ (.int .u32 pc)).setCell ⟨w.heap.size, 2, none⟩ (.slice ma 2 mc)) B a zs cap ∧ (∀ (l h : Nat) (Y : World), h ≤ w.heap.size → Betw l h (((X.setCell ⟨w.heap.size, 0, none⟩ (.slice ra 16 rc)).setCell ⟨w.heap.size, 1, none⟩ (.int .u32 pc)).setCell ⟨w.heap.size, 2, none⟩ (.slice ma 2 mc)) Y → ASeg Y (some ⟨G, 0, none⟩) ([(64, 128, p), (64, 64, 3)]) ∧ XGSeg Y ra ma rs 2 D)) ∧ Bk (((X.setCell ⟨w.heap.size, 0, none⟩ (.slice ra 16 rc)).setCell ⟨w.heap.size, 1, none⟩ (.int .u32 pc)).setCell ⟨w.heap.size, 2, none⟩ (.slice ma 2 mc)) w.heap.size #[.slice ra 16 rc, .int .u32 pc, .slice ma 2 mc]) := fun X hX => by
                have h := HGF.out.below hX
                have hbt : Betw w.heap.size (w.heap.size + 1) X (((X.setCell ⟨w.heap.size, 0, none⟩ (.slice ra 16 rc)).setCell ⟨w.heap.size, 1, none⟩ (.int .u32 pc)).setCell ⟨w.heap.size, 2, none⟩ (.slice ma 2 mc)) := (((Betw.refl _ _ _).setCell (p := ⟨w.heap.size, 0, none⟩) (Nat.le_refl _) (Nat.lt_succ_self _) _).setCell (p := ⟨w.heap.size, 1, none⟩) (Nat.le_refl _) (Nat.lt_succ_self _) _).setCell (p := ⟨w.heap.size, 2, none⟩) (Nat.le_refl _) (Nat.lt_succ_self _) _
                refine ⟨⟨h.ct.far (hbt.below (Nat.le_refl _) h.ct.turn.size), fun l h' Y hh hY => ?_⟩, ((h.r3.set 0 _ (by simp) rfl).set 1 _ (by simp) rfl).set 2 _ (by simp) rfl⟩
                exact h.kp 0 (w.heap.size + 1) Y (Nat.le_refl _) ⟨hY.os.trans hbt.os, hY.tape.trans hbt.tape, hY.output.trans hbt.output, Nat.le_trans hbt.size hY.size, fun k hk ho => (hY.block k (Nat.lt_of_lt_of_le hk hbt.size) (by omega)).trans (hbt.block k hk (by omega))⟩
              have hPRE0 : Below wq.heap.size wq wq.drew := (Below.refl _ _).drew
              refine wp_region_inv (by kernel_rfl) (by kernel_rfl) (fun A ℓ a' w' => ∃ (x56 x57 x2 : Value), a' = (((A.put (some 56) x56).put (some 57) x57).put (some 2) x2) ∧ Rh15 (fun w' => Below wq.heap.size wq w') (fun w' => (CT w w' B a zs cap ∧ (∀ (l h : Nat) (Y : World), h ≤ w.heap.size → Betw l h w' Y → ASeg Y (some ⟨G, 0, none⟩) ([(64, 128, p), (64, 64, 3)]) ∧ XGSeg Y ra ma rs 2 D)) ∧ Bk w' w.heap.size #[.slice ra 16 rc, .int .u32 pc, .slice ma 2 mc]) (.slice (some ⟨G, 0, none⟩) 2 2) (gst ra 16 rc pc ma 2 mc) w' (ℓ 0) (ℓ 1) (ℓ 2) (ℓ 3) x56 x57 x2) ?_ ?_ ?_ ?_
              · exact ⟨undef, undef, (.slice none 0 0), (by simp only [Act.put, List.setIfInBounds_toArray, List.set_cons_zero, List.set_cons_succ]), ⟨fun _ => hPRE0, (fun g => by cases g), (fun g => by cases g), (fun g => by cases g), (fun g => by cases g), (fun g => by cases g), (fun g => by cases g), (fun g => by cases g), (fun g => by cases g), (fun g => by cases g)⟩⟩
              · intro ℓ a' w' hI hall
                obtain ⟨x56, x57, x2, rfl, hr⟩ := hI
                have hall' : ∀ i, i < 4 → ℓ i = true := hall
                obtain rfl := hr.f0 (hall' 0 (by decide))
                obtain rfl := hr.f1 (hall' 1 (by decide))
                obtain rfl := hr.f2 (hall' 2 (by decide))
                have HPST := hr.pst (hall' 3 (by decide))
                clear hall hall' hr
                simp only [Act.put, List.setIfInBounds_toArray, List.set_cons_zero, List.set_cons_succ]
                obtain ⟨hg, hb⟩ := HPST
                have n0 := hb.cell 0 _ rfl
                have n1 := hb.cell 1 _ rfl
                have n2 := hb.cell 2 _ rfl
                have HGG : Hid _ := hg
                clear hg hb
                go_wp2
                exact bodyPost_ret (v := .tuple #[.slice (some ⟨G, 0, none⟩) 2 2, gst ra 16 rc pc ma 2 mc]) (by simp [results, Try.results13, go_sem, n0, n1, n2]) rfl ⟨_, _, _, _, _, _, _, _, _, _, _, rfl, HGG.out.1, HGG.out.2, HGF.out.gt⟩
              · intro ℓ a' w' i o hI ho hi hL hdep K hK
                obtain ⟨x56, x57, x2, rfl, hr⟩ := hI
                have hi7 : i < 4 := hi
                have hcs : i = 0 ∨ i = 1 ∨ i = 2 ∨ i = 3 := by omega
                clear hi hi7
                rcases hcs with rfl | rfl | rfl | rfl
                · obtain rfl := Option.some.inj ho
                  clear hdep ho
                  revert hK
                  intro hK
                  rw [if_pos (by rfl)]
                  try simp only [Act.put, List.setIfInBounds_toArray, List.set_cons_zero, List.set_cons_succ]
                  go_simp
                  exact hK.out _ _ (fun j => if j = 0 then true else ℓ j) ⟨.slice (some ⟨G, 0, none⟩) 2 2, x57, x2, (by simp only [Act.put, List.setIfInBounds_toArray, List.set_cons_zero, List.set_cons_succ]), ⟨hr.pre, hr.pst, (fun _ => rfl), (fun _ => trivial), hr.f1, hr.c1, hr.f2, (fun z => ⟨rfl, trivial⟩), hr.f3, hr.c3⟩⟩ (if_pos rfl) (fun j hj => if_neg hj)
                · obtain rfl := Option.some.inj ho
                  clear hdep ho
                  have hl : ℓ 3 = false := by
                    cases h7 : ℓ 3
                    · rfl
                    · have := (hr.c3 h7).1; rw [this] at hL; cases hL
                  have hp := hr.pre hl
                  revert hK
                  have kq := (HGF.out.below hp).bx
                  have q0 := kq.cell 0 _ rfl
                  have q1 := kq.cell 1 _ rfl
                  have q2 := kq.cell 2 _ rfl
                  clear kq
                  intro hK
                  rw [if_pos (by rfl)]
                  try simp only [Act.put, List.setIfInBounds_toArray, List.set_cons_zero, List.set_cons_succ]
                  go_simp
                  exact hK.out _ _ (fun j => if j = 1 then true else ℓ j) ⟨x56, gst ra 16 rc pc ma 2 mc, x2, (by simp only [Act.put, List.setIfInBounds_toArray, List.set_cons_zero, List.set_cons_succ]), ⟨hr.pre, hr.pst, hr.f0, hr.c0, (fun _ => rfl), (fun _ => trivial), hr.f2, hr.c2, hr.f3, (fun z => ⟨rfl, trivial⟩)⟩⟩ (if_pos rfl) (fun j hj => if_neg hj)
                · obtain rfl := Option.some.inj ho
                  have g0 : ℓ 0 = true := hdep { on := 0, ground := Ground.data } (by simp) rfl
                  clear hdep ho
                  revert hK
                  obtain rfl := hr.f0 g0
                  intro hK
                  rw [if_pos (by rfl)]
                  try simp only [Act.put, List.setIfInBounds_toArray, List.set_cons_zero, List.set_cons_succ]
                  go_simp
                  exact hK.out _ _ (fun j => if j = 2 then true else ℓ j) ⟨.slice (some ⟨G, 0, none⟩) 2 2, x57, .slice (some ⟨G, 0, none⟩) 2 2, (by simp only [Act.put, List.setIfInBounds_toArray, List.set_cons_zero, List.set_cons_succ]), ⟨hr.pre, hr.pst, hr.f0, hr.c0, hr.f1, hr.c1, (fun _ => rfl), (fun _ => ⟨g0, trivial⟩), hr.f3, hr.c3⟩⟩ (if_pos rfl) (fun j hj => if_neg hj)
                · obtain rfl := Option.some.inj ho
                  have g1 : ℓ 1 = true := hdep { on := 1, ground := Ground.data } (by simp) rfl
                  clear hdep ho
                  have hp := hr.pre hL
                  revert hK
                  obtain rfl := hr.f1 g1
                  have kq := (HGF.out.below hp).r3
                  have q0 := kq.cell 0 _ rfl
                  have q1 := kq.cell 1 _ rfl
                  have q2 := kq.cell 2 _ rfl
                  have qf := kq.free
                  have hq := Hend.out _ hp
                  clear kq
                  intro hK
                  have HQq : Hid _ := hq
                  clear hq hp
                  rw [if_pos (by rfl)]
                  try simp only [Act.put, List.setIfInBounds_toArray, List.set_cons_zero, List.set_cons_succ]
                  go_simp
                  exact hK.out _ _ (fun j => if j = 3 then true else ℓ j) ⟨x56, gst ra 16 rc pc ma 2 mc, x2, (by simp only [Act.put, List.setIfInBounds_toArray, List.set_cons_zero, List.set_cons_succ]), ⟨(fun z => by cases z), (fun _ => HQq.out), hr.f0, hr.c0, hr.f1, hr.c1, hr.f2, hr.c2, (fun _ => trivial), (fun _ => ⟨g1, trivial⟩)⟩⟩ (if_pos rfl) (fun j hj => if_neg hj)
              · rintro a' w' ℓ ℓ' hℓ hI
                rw [← show ℓ = ℓ' from funext hℓ]
                exact hI
            · have hq5 : (y == 5) = false := beq_eq_false_iff_ne.2 hx5
              clear hx5
              have HGW : Hid (GF w w2 B a zs cap G P ([(64, 128, p), (192 + 4 * k, 64, 3)]) ra ma 16 rc 2 mc pc rs D) := HGV.out.same HSM.out.1 HSM.out.2.1 HSM.out.2.2.1 HSM.out.2.2.2
              clear HGV
              go_wp2
              revert HGW
              generalize w2 = wq
              intro HGW
              have HGF : Hid _ := HGW.out
              clear HGW
              have Hend : Hid (∀ X, Below wq.heap.size wq X → (CT w (((X.setCell ⟨w.heap.size, 0, none⟩ (.slice ra 16 rc)).setCell ⟨w.heap.size, 1, none⟩ (.int .u32 pc)).setCell ⟨w.heap.size, 2, none⟩ (.slice ma 2 mc)) B a zs cap ∧ (∀ (l h : Nat) (Y : World), h ≤ w.heap.size → Betw l h (((X.setCell ⟨w.heap.size, 0, none⟩ (.slice ra 16 rc)).setCell ⟨w.heap.size, 1, none⟩ (.int .u32 pc)).setCell ⟨w.heap.size, 2, none⟩ (.slice ma 2 mc)) Y → ASeg Y (some ⟨G, 0, none⟩) ([(64, 128, p), (192 + 4 * k, 64, 3)]) ∧ XGSeg Y ra ma rs 2 D)) ∧ Bk (((X.setCell ⟨w.heap.size, 0, none⟩ (.slice ra 16 rc)).setCell ⟨w.heap.size, 1, none⟩ (.int .u32 pc)).setCell ⟨w.heap.size, 2, none⟩ (.slice ma 2 mc)) w.heap.size #[.slice ra 16 rc, .int .u32 pc, .slice ma 2 mc]) := fun X hX => by
                have h := HGF.out.below hX
                have hbt : Betw w.heap.size (w.heap.size + 1) X (((X.setCell ⟨w.heap.size, 0, none⟩ (.slice ra 16 rc)).setCell ⟨w.heap.size, 1, none⟩ (.int .u32 pc)).setCell ⟨w.heap.size, 2, none⟩ (.slice ma 2 mc)) := (((Betw.refl _ _ _).setCell (p := ⟨w.heap.size, 0, none⟩) (Nat.le_refl _) (Nat.lt_succ_self _) _).setCell (p := ⟨w.heap.size, 1, none⟩) (Nat.le_refl _) (Nat.lt_succ_self _) _).setCell (p := ⟨w.heap.size, 2, none⟩) (Nat.le_refl _) (Nat.lt_succ_self _) _
                refine ⟨⟨h.ct.far (hbt.below (Nat.le_refl _) h.ct.turn.size), fun l h' Y hh hY => ?_⟩, ((h.r3.set 0 _ (by simp) rfl).set 1 _ (by simp) rfl).set 2 _ (by simp) rfl⟩
                exact h.kp 0 (w.heap.size + 1) Y (Nat.le_refl _) ⟨hY.os.trans hbt.os, hY.tape.trans hbt.tape, hY.output.trans hbt.output, Nat.le_trans hbt.size hY.size, fun k hk ho => (hY.block k (Nat.lt_of_lt_of_le hk hbt.size) (by omega)).trans (hbt.block k hk (by omega))⟩
              have hPRE0 : Below wq.heap.size wq wq.drew := (Below.refl _ _).drew
              refine wp_region_inv (by kernel_rfl) (by kernel_rfl) (fun A ℓ a' w' => ∃ (x56 x57 x2 : Value), a' = (((A.put (some 56) x56).put (some 57) x57).put (some 2) x2) ∧ Rh15 (fun w' => Below wq.heap.size wq w') (fun w' => (CT w w' B a zs cap ∧ (∀ (l h : Nat) (Y : World), h ≤ w.heap.size → Betw l h w' Y → ASeg Y (some ⟨G, 0, none⟩) ([(64, 128, p), (192 + 4 * k, 64, 3)]) ∧ XGSeg Y ra ma rs 2 D)) ∧ Bk w' w.heap.size #[.slice ra 16 rc, .int .u32 pc, .slice ma 2 mc]) (.slice (some ⟨G, 0, none⟩) 2 2) (gst ra 16 rc pc ma 2 mc) w' (ℓ 0) (ℓ 1) (ℓ 2) (ℓ 3) x56 x57 x2) ?_ ?_ ?_ ?_
              · exact ⟨undef, undef, (.slice none 0 0), (by simp only [Act.put, List.setIfInBounds_toArray, List.set_cons_zero, List.set_cons_succ]), ⟨fun _ => hPRE0, (fun g => by cases g), (fun g => by cases g), (fun g => by cases g), (fun g => by cases g), (fun g => by cases g), (fun g => by cases g), (fun g => by cases g), (fun g => by cases g), (fun g => by cases g)⟩⟩
              · intro ℓ a' w' hI hall
                obtain ⟨x56, x57, x2, rfl, hr⟩ := hI
                have hall' : ∀ i, i < 4 → ℓ i = true := hall
                obtain rfl := hr.f0 (hall' 0 (by decide))
                obtain rfl := hr.f1 (hall' 1 (by decide))
                obtain rfl := hr.f2 (hall' 2 (by decide))
                have HPST := hr.pst (hall' 3 (by decide))
                clear hall hall' hr
                simp only [Act.put, List.setIfInBounds_toArray, List.set_cons_zero, List.set_cons_succ]
                obtain ⟨hg, hb⟩ := HPST
                have n0 := hb.cell 0 _ rfl
                have n1 := hb.cell 1 _ rfl
                have n2 := hb.cell 2 _ rfl
                have HGG : Hid _ := hg
                clear hg hb
                go_wp2
                exact bodyPost_ret (v := .tuple #[.slice (some ⟨G, 0, none⟩) 2 2, gst ra 16 rc pc ma 2 mc]) (by simp [results, Try.results13, go_sem, n0, n1, n2]) rfl ⟨_, _, _, _, _, _, _, _, _, _, _, rfl, HGG.out.1, HGG.out.2, HGF.out.gt⟩
              · intro ℓ a' w' i o hI ho hi hL hdep K hK
                obtain ⟨x56, x57, x2, rfl, hr⟩ := hI
                have hi7 : i < 4 := hi
                have hcs : i = 0 ∨ i = 1 ∨ i = 2 ∨ i = 3 := by omega
                clear hi hi7
                rcases hcs with rfl | rfl | rfl | rfl
                · obtain rfl := Option.some.inj ho
                  clear hdep ho
                  revert hK
                  intro hK
                  rw [if_pos (by rfl)]
                  try simp only [Act.put, List.setIfInBounds_toArray, List.set_cons_zero, List.set_cons_succ]
                  go_simp
                  exact hK.out _ _ (fun j => if j = 0 then true else ℓ j) ⟨.slice (some ⟨G, 0, none⟩) 2 2, x57, x2, (by simp only [Act.put, List.setIfInBounds_toArray, List.set_cons_zero, List.set_cons_succ]), ⟨hr.pre, hr.pst, (fun _ => rfl), (fun _ => trivial), hr.f1, hr.c1, hr.f2, (fun z => ⟨rfl, trivial⟩), hr.f3, hr.c3⟩⟩ (if_pos rfl) (fun j hj => if_neg hj)
                · obtain rfl := Option.some.inj ho
                  clear hdep ho
                  have hl : ℓ 3 = false := by
                    cases h7 : ℓ 3
                    · rfl
                    · have := (hr.c3 h7).1; rw [this] at hL; cases hL
                  have hp := hr.pre hl
                  revert hK
                  have kq := (HGF.out.below hp).bx
                  have q0 := kq.cell 0 _ rfl
                  have q1 := kq.cell 1 _ rfl
                  have q2 := kq.cell 2 _ rfl
                  clear kq
                  intro hK
                  rw [if_pos (by rfl)]
                  try simp only [Act.put, List.setIfInBounds_toArray, List.set_cons_zero, List.set_cons_succ]
                  go_simp
                  exact hK.out _ _ (fun j => if j = 1 then true else ℓ j) ⟨x56, gst ra 16 rc pc ma 2 mc, x2, (by simp only [Act.put, List.setIfInBounds_toArray, List.set_cons_zero, List.set_cons_succ]), ⟨hr.pre, hr.pst, hr.f0, hr.c0, (fun _ => rfl), (fun _ => trivial), hr.f2, hr.c2, hr.f3, (fun z => ⟨rfl, trivial⟩)⟩⟩ (if_pos rfl) (fun j hj => if_neg hj)
                · obtain rfl := Option.some.inj ho
                  have g0 : ℓ 0 = true := hdep { on := 0, ground := Ground.data } (by simp) rfl
                  clear hdep ho
                  revert hK
                  obtain rfl := hr.f0 g0
                  intro hK
                  rw [if_pos (by rfl)]
                  try simp only [Act.put, List.setIfInBounds_toArray, List.set_cons_zero, List.set_cons_succ]
                  go_simp
                  exact hK.out _ _ (fun j => if j = 2 then true else ℓ j) ⟨.slice (some ⟨G, 0, none⟩) 2 2, x57, .slice (some ⟨G, 0, none⟩) 2 2, (by simp only [Act.put, List.setIfInBounds_toArray, List.set_cons_zero, List.set_cons_succ]), ⟨hr.pre, hr.pst, hr.f0, hr.c0, hr.f1, hr.c1, (fun _ => rfl), (fun _ => ⟨g0, trivial⟩), hr.f3, hr.c3⟩⟩ (if_pos rfl) (fun j hj => if_neg hj)
                · obtain rfl := Option.some.inj ho
                  have g1 : ℓ 1 = true := hdep { on := 1, ground := Ground.data } (by simp) rfl
                  clear hdep ho
                  have hp := hr.pre hL
                  revert hK
                  obtain rfl := hr.f1 g1
                  have kq := (HGF.out.below hp).r3
                  have q0 := kq.cell 0 _ rfl
                  have q1 := kq.cell 1 _ rfl
                  have q2 := kq.cell 2 _ rfl
                  have qf := kq.free
                  have hq := Hend.out _ hp
                  clear kq
                  intro hK
                  have HQq : Hid _ := hq
                  clear hq hp
                  rw [if_pos (by rfl)]
                  try simp only [Act.put, List.setIfInBounds_toArray, List.set_cons_zero, List.set_cons_succ]
                  go_simp
                  exact hK.out _ _ (fun j => if j = 3 then true else ℓ j) ⟨x56, gst ra 16 rc pc ma 2 mc, x2, (by simp only [Act.put, List.setIfInBounds_toArray, List.set_cons_zero, List.set_cons_succ]), ⟨(fun z => by cases z), (fun _ => HQq.out), hr.f0, hr.c0, hr.f1, hr.c1, hr.f2, hr.c2, (fun _ => trivial), (fun _ => ⟨g1, trivial⟩)⟩⟩ (if_pos rfl) (fun j hj => if_neg hj)
              · rintro a' w' ℓ ℓ' hℓ hI
                rw [← show ℓ = ℓ' from funext hℓ]
                exact hI
end Iy
end Go.Proofs.Ytanffdedignegaa
