
/-
  A new guest, by the program: registers and rows of noughts, in memory of its own; the four bytes of a word. Conditions: lengths are lengths of slices.
-/
import Derived.Test.YtdmlgnmklnaehaaGreatDoorBas
import Derived.Test.YtdmlgnmklnaehaaGreatDoorGrw
import Derived.Test.YtdmlgnmklnaehaaGreatDoorBap
import Derived.Test.YtdmlgnmklnaehaaGreatDoorWat
import Derived.Deep.RegionHeldLaw
import Derived.Deep.RegionLaw
namespace Go.Proofs.YtdmlgnmklnaehaaGreatDoor
open Go.ChangeShapes Go.WideShapes Go.ChangeAt Go.RowKit Go.Deep
set_option linter.unusedVariables false

theorem Bk.low {w w' : World} {b B : Nat} {cs : Array Value} (h : Bk w b cs) (hb : Below B w w') (hlt : b < B) : Bk w' b cs :=
  ⟨Nat.lt_of_lt_of_le h.lt hb.size, fun i v e => (World.cell?_of_block (a := ⟨b, i, none⟩) (hb.block b hlt)).trans (h.cell i v e), fun i => (World.frozen?_of_block (a := ⟨b, i, none⟩) (hb.block b hlt)).trans (h.free i)⟩
abbrev gst (ra : Option Addr) (rl rc : Nat) (pc : Int) (ma : Option Addr) (ml mc : Nat) : Value := .agg #[.slice ra rl rc, .int .u32 pc, .slice ma ml mc]
theorem cell_alloc_l {w : World} {p : Addr} {v : Value} (o : Obj) (h : w.cell? p = some v) : (w.alloc o).cell? p = some v := kept_cell ((Below.refl _ _).alloc (Nat.le_refl _) _) h
def OGst (w : World) (lo m hi : Nat) (ra ma : Option Addr) (rs : List Int) (n : Nat) (D : Nat → List Int) : Prop := (∃ R, ON .u32 w lo m ra rs R) ∧ BRows w m hi ma n D
def OAns (X : World) (rs : List Int) (rl : Nat) (pc : Int) (n : Nat) (D : Nat → List Int) (e : Ending) (w' : World) : Prop :=
  ∃ ra' ma' rc' mc' m, e = .returned (gst ra' rl rc' pc ma' n mc') ∧ Below X.heap.size X w' ∧ OGst w' X.heap.size m w'.heap.size ra' ma' rs n D ∧ X.heap.size ≤ m ∧ m ≤ w'.heap.size
theorem infoB' : ∃ i, Tryz.prog.info? 5 = some i ∧ i.zero = some (.int .u8 0) ∧ i.size = 1 ∧ i.bytes = 1 := by
  obtain ⟨i, hi, h⟩ := Option.map_eq_some_iff.1 infoB
  simp only [Prod.mk.injEq] at h
  exact ⟨i, hi, h.1, h.2.1, h.2.2⟩
theorem one_num (k : IntKind) (r : Int) : ∀ u ∈ [Value.int k r], u.oneCell' = true := by
  intro u hu
  simp only [List.mem_singleton] at hu
  subst hu
  rfl
def regs0 : List Int := List.replicate 16 0
def rows0 (xs : List Wn) : Nat → List Int := fun i => List.replicate (xs.getD i wn0).2.1.toNat 0
theorem step_append_one {P : Program} {w : World} {ops : Array Oper} {o : Oper} {a : Act} {K : Act → World → Prop} {Q : Exit → Act → World → Prop} {E : Prop} (hgd : o.guard = none) (s x : Operand) (t : TypeId)
    (ho : o.op = .call { callee := .builtin .append, args := #[s, x], argTypes := #[t, t] })
    (base : Nat) (e : TypeId) (i : TypeInfo) (z : Value) (size bytes : Nat) (ht : P.underlying t = some (.slice e)) (hi : P.info? e = some i) (hz : i.zero = some z)
    (hsize : i.size = size) (hby : i.bytes = bytes) (hzs : z.cells.size = size) (hsz : 0 < size)
    (v : Value) (n : Nat) (xs : List Value) (hs : a.eval s = v) (hown : w.ownsRow base e size v n xs)
    (ad : Addr) (m c : Nat) (news : List Value) (hx : a.eval x = .slice (some ad) m c) (hl : news.length = m * size) (hnews : ∀ j u, news[j]? = some u → w.cell? (ad.add j) = some u) (h1 : ∀ u ∈ news, u.oneCell' = true)
    (hm : 0 < m) (h63 : n + m ≤ maxLen) (hbytes : (n + m) * bytes ≤ 140737488355328) (hbase : base ≤ w.heap.size) (d : Option Nat) (hd : o.dst = d)
    (h : ∀ g cap w', w'.ownsRow base e size (.slice (some ⟨g, 0, none⟩) (n + m) cap) (n + m) (xs ++ news) → w.grownBy w' v.ownBlock → (v.ownBlock = some g ∨ g = w.heap.size) → g < w'.heap.size → K (a.put d (.slice (some ⟨g, 0, none⟩) (n + m) cap)) w') :
    if Region.wanted o (yielded ops a.tmps) = true then Oper.wp P o a w K Q else E := by
  subst hd
  exact step_append_lies w hgd s x t ho base e i z size bytes ht hi hz hsize hby hzs hsz v n xs hs hown ad m c news hx hl hnews h1 hm h63 hbytes hbase _ rfl h
theorem on_low {k : IntKind} {w w' : World} {lo hi B R : Nat} {a : Option Addr} {zs : List Int} (h : ON k w lo hi a zs R) (hb : Below B w w') (hlt : R < B) : ON k w' lo hi a zs R := fun h0 => by
  obtain ⟨off, e, h1, h2, h3, hc, hf⟩ := h h0
  exact ⟨off, e, h1, h2, Nat.lt_of_lt_of_le h3 hb.size, fun i hi => (World.cell?_of_block (a := ⟨R, off + i, none⟩) (hb.block R hlt)).trans (hc i hi), fun j => (World.frozen?_of_block (a := ⟨R, j, none⟩) (hb.block R hlt)).trans (hf j)⟩
structure NL (w wr : World) (B : Nat) (pc : Int) (k : Nat) (D : Nat → List Int) (v : Value) (m : Nat) (A : Nat → Option Addr) (C R : Nat → Nat) : Prop where
  bel : Below w.heap.size w wr
  b0 : Bk wr w.heap.size #[.slice none 0 0, .int .u32 0, .slice none 0 0]
  low : w.heap.size < B
  regs : ON .u32 wr B (B + 1) (some ⟨B, 0, none⟩) regs0 B
  var : Bk wr (B + 1) #[.slice (some ⟨B, 0, none⟩) 16 16, .int .u32 pc, v]
  rows : Bla wr (B + 2) m v k D A C R
  top : B + 2 ≤ wr.heap.size
theorem NL.below {w wr w' : World} {B : Nat} {pc : Int} {k : Nat} {D : Nat → List Int} {v : Value} {m : Nat} {A : Nat → Option Addr} {C R : Nat → Nat} (h : NL w wr B pc k D v m A C R) (hb : Below wr.heap.size wr w') : NL w w' B pc k D v m A C R :=
  ⟨h.bel.trans (hb.mono h.bel.size), h.b0.below hb, h.low, h.regs.below hb, h.var.below hb, h.rows.below hb, Nat.le_trans h.top hb.size⟩
theorem NL.push {w W w' : World} {B : Nat} {pc : Int} {k : Nat} {D : Nat → List Int} {v : Value} {m : Nat} {A : Nat → Option Addr} {C R : Nat → Nat} (h : NL w W B pc k D v m A C R) (a : Option Addr) (ca Rk g cap : Nat) (how : ON .u8 W (B + 2) W.heap.size a (D k) Rk) (hR : 0 < (D k).length → m ≤ Rk) (hca : (D k).length ≤ ca)
    (hown : w'.ownsRow (B + 2) 82 1 (.slice (some ⟨g, 0, none⟩) (k + 1) cap) (k + 1) (browCells A C D k ++ [.slice a (D k).length ca])) (hgrow : W.grownBy w' v.ownBlock) (hat : v.ownBlock = some g ∨ g = W.heap.size) (hg : g < w'.heap.size) :
    Bk w' (B + 1) #[.slice (some ⟨B, 0, none⟩) 16 16, .int .u32 pc, v] ∧ ∃ m' A' C' R', NL w (w'.setCell ⟨B + 1, 2, none⟩ (.slice (some ⟨g, 0, none⟩) (k + 1) cap)) B pc (k + 1) D (.slice (some ⟨g, 0, none⟩) (k + 1) cap) m' A' C' R' := by
  have hlow := own_low h.rows.own
  have hbl : Below (B + 2) W w' := grown_below hgrow hlow h.top
  have h2 := h.rows.step a ca Rk _ g cap how hR hca hown hgrow hat rfl hg
  have hvar := h.var.low hbl (by omega)
  have hbt : Betw (B + 1) (B + 1 + 1) w' (w'.setCell ⟨B + 1, 2, none⟩ (.slice (some ⟨g, 0, none⟩) (k + 1) cap)) := (Betw.refl _ _ _).setCell (p := ⟨B + 1, 2, none⟩) (Nat.le_refl _) (Nat.lt_succ_self _) _
  have hl := h.low
  have hb' := h.bel.trans (hbl.mono (by omega))
  have hreg : ON .u32 w' B (B + 1) (some ⟨B, 0, none⟩) regs0 B := on_low h.regs hbl (by omega)
  refine ⟨hvar, _, _, _, _, ⟨hb'.trans (hbt.below (by omega) hb'.size), (h.b0.low hbl (by omega)).other _ _ _ (by omega), hl, hreg.betw hbt (fun _ => .inl (by omega)), hvar.set 2 _ (by simp) rfl, h2.betw hbt (Nat.le_refl _), ?_⟩⟩
  have := hbl.size
  have := h.top
  simp
  omega
set_option maxRecDepth 20000 in
set_option maxHeartbeats 8000000 in
theorem impl_new (a : Option Addr) (cap n : Nat) (en : Int) (xs : List Wn) (w : World) (hs : ASeg w a xs) (hl : xs.length = n) (hn : n ≤ 9223372036854775807) (hc : n ≤ cap) (ho : WsOk xs) :
    Calls Tryz.prog 38 #[.slice a n cap, .int .i64 en] w (OAns w regs0 16 (en % 4294967296) n (rows0 xs)) := by
  have hmk16 : ∀ w : World, (Instr.makeSlice 32 (.int .i64 16) (.int .i64 16)).run Tryz.prog w = .ok (.slice (some ⟨w.heap.size, 0, none⟩) 16 16) (w.alloc (.cells (madeCells #[.int .u32 0] 16) 84)) := fun w => by have := run_make_regs 16 (by omega) w; simpa using this
  have hbw : Below w.heap.size w (w.alloc (.cells #[.slice none 0 0, .int .u32 0, .slice none 0 0] 93)) := (Below.refl _ w).alloc (Nat.le_refl _) _
  have B0 := Bk.new w #[.slice none 0 0, .int .u32 0, .slice none 0 0] 93 w.heap.size rfl
  have HWK : Hid _ := impl_wsok a cap n xs _ (hs.below hbw) hl hn hc ho
  have HB : Hid (Below w.heap.size w _) := hbw
  have HS : Hid (ASeg w a xs ∧ xs.length = n ∧ WsOk xs) := ⟨hs, hl, ho⟩
  have hn4 : n ≤ 4 := by have := ho.1; omega
  obtain ⟨iR, hI⟩ := infoR'
  have HI : Hid _ := hI
  clear hs hl ho hbw hI
  go_enter Tryz.func38, Tryz.ntmps38
  go_wp2_with fail
  refine Calls.mono HWK.out ?_
  rintro u w1 ⟨rfl, hb1⟩
  obtain ⟨pc, HPC⟩ : ∃ pc, Hid (en % 4294967296 = pc) := ⟨_, rfl⟩
  have hz1 : w.heap.size < w1.heap.size := (B0.below hb1).lt
  have HN0 : Hid (NL w ((w1.alloc (.cells (madeCells #[.int .u32 0] 16) 84)).alloc (.cells #[.slice (some ⟨w1.heap.size, 0, none⟩) 16 16, .int .u32 pc, .slice none 0 0] 93)) w1.heap.size pc 0 (rows0 xs) (.slice none 0 0) (w1.heap.size + 2) (fun _ => none) (fun _ => 0) (fun _ => 0)) := by
    have hal1 : Below w1.heap.size w1 (w1.alloc (.cells (madeCells #[.int .u32 0] 16) 84)) := (Below.refl _ _).alloc (Nat.le_refl _) _
    have hal2 : Below (w1.alloc (.cells (madeCells #[.int .u32 0] 16) 84)).heap.size (w1.alloc (.cells (madeCells #[.int .u32 0] 16) 84)) ((w1.alloc (.cells (madeCells #[.int .u32 0] 16) 84)).alloc (.cells #[.slice (some ⟨w1.heap.size, 0, none⟩) 16 16, .int .u32 pc, .slice none 0 0] 93)) := (Below.refl _ _).alloc (Nat.le_refl _) _
    have hba := hal1.trans (hal2.mono hal1.size)
    have hb' := HB.out.trans (hb1.mono HB.out.size)
    have hown : Own .u32 (w1.alloc (.cells (madeCells #[.int .u32 0] 16) 84)) w1.heap.size regs0 := Own.made .u32 w1 16 84 0
    exact ⟨hb'.trans (hba.mono hb'.size), (B0.below hb1).below hba, hz1, (ON.own hown (Nat.le_refl _) (by omega)).below hal2, Bk.new _ _ 93 (w1.heap.size + 1) (by simp), Bla.none _ _ _ _ _ _ _ (by simp), by simp⟩
  clear hb1 HWK B0 HB
  go_wp2
  rw [HPC.out]
  obtain ⟨B, HBe⟩ : ∃ B, Hid (w1.heap.size = B) := ⟨_, rfl⟩
  rw [HBe.out] at HN0 hz1 ⊢
  go_loopw [18] (fun i wr => ∃ k : Nat, k ≤ n ∧ i = .int .i64 k ∧ Hid (∃ v m A C R, NL w wr B pc k (rows0 xs) v m A C R)) (fun i _ => n - (intOf i).toNat)
  case atStart => exact ⟨0, by omega, rfl, _, _, _, _, _, HN0.out⟩
  case round =>
    obtain ⟨k, hk, rfl, HU⟩ := hrel
    obtain ⟨v, m, A, C, R, hnl⟩ := HU.out
    obtain ⟨av, cv, rfl⟩ := hnl.rows.form
    clear HN0 HU
    by_cases hkn : k < n
    · have hkn' : (k : Int) < (n : Int) := by omega
      obtain ⟨b1, o1, rfl, hbl1, p0, p1, p2⟩ := ASeg.at HS.out.1 k (by rw [HS.out.2.1]; exact hkn)
      have hwo := WsOk.at HS.out.2.2 (k := k) (by rw [HS.out.2.1]; exact hkn)
      obtain ⟨g1, g2, g3, g4, g5, _⟩ := hwo
      have hD : rows0 xs k = List.replicate (xs.getD k wn0).2.1.toNat 0 := rfl
      generalize xs.getD k wn0 = y at p0 p1 p2 g1 g2 g3 g4 g5 hD
      obtain ⟨y1, y2, y3⟩ := y
      simp only at p0 p1 p2 g1 g2 g3 g4 g5 hD
      obtain ⟨sz, rfl⟩ := Int.eq_ofNat_of_zero_le (show 0 ≤ y2 by omega)
      rw [Int.toNat_natCast] at hD
      have hsz : sz ≤ 2048 := by omega
      replace p0 := (hnl.bel.cell (p := ⟨b1, o1 + k * 3, none⟩) hbl1).trans p0
      replace p1 := (hnl.bel.cell (p := ⟨b1, o1 + k * 3 + 1, none⟩) hbl1).trans p1
      replace p2 := (hnl.bel.cell (p := ⟨b1, o1 + k * 3 + 2, none⟩) hbl1).trans p2
      have hal1 : Below wr.heap.size wr (wr.alloc (.cells #[.int .i64 y1, .int .i64 (sz : Int), .int .i64 y3] 81)) := (Below.refl _ _).alloc (Nat.le_refl _) _
      have hal2 := hal1.alloc hal1.size (.cells (madeCells #[.int .u8 0] sz) 5)
      have hal3 := (hal2.alloc hal2.size (.cells #[.slice (some ⟨wr.heap.size + 1, 0, none⟩) sz sz] 82)).drew
      have hnl3 := hnl.below hal3
      have HNL : Hid (NL w ((((wr.alloc (.cells #[.int .i64 y1, .int .i64 (sz : Int), .int .i64 y3] 81)).alloc (.cells (madeCells #[.int .u8 0] sz) 5)).alloc (.cells #[.slice (some ⟨wr.heap.size + 1, 0, none⟩) sz sz] 82)).drew) B pc k (rows0 xs) (.slice av k cv) m A C R) := hnl3
      have HRW : Hid (ON .u8 ((((wr.alloc (.cells #[.int .i64 y1, .int .i64 (sz : Int), .int .i64 y3] 81)).alloc (.cells (madeCells #[.int .u8 0] sz) 5)).alloc (.cells #[.slice (some ⟨wr.heap.size + 1, 0, none⟩) sz sz] 82)).drew) (B + 2) ((((wr.alloc (.cells #[.int .i64 y1, .int .i64 (sz : Int), .int .i64 y3] 81)).alloc (.cells (madeCells #[.int .u8 0] sz) 5)).alloc (.cells #[.slice (some ⟨wr.heap.size + 1, 0, none⟩) sz sz] 82)).drew).heap.size (some ⟨wr.heap.size + 1, 0, none⟩) (rows0 xs k) (wr.heap.size + 1)) := by
        rw [hD]
        have how : Own .u8 ((wr.alloc (.cells #[.int .i64 y1, .int .i64 (sz : Int), .int .i64 y3] 81)).alloc (.cells (madeCells #[.int .u8 0] sz) 5)) (wr.heap.size + 1) (List.replicate sz 0) := by
          have := Own.made .u8 (wr.alloc (.cells #[.int .i64 y1, .int .i64 (sz : Int), .int .i64 y3] 81)) sz 5 0
          rwa [World.size_alloc] at this
        have h3 : Below ((wr.alloc (.cells #[.int .i64 y1, .int .i64 (sz : Int), .int .i64 y3] 81)).alloc (.cells (madeCells #[.int .u8 0] sz) 5)).heap.size ((wr.alloc (.cells #[.int .i64 y1, .int .i64 (sz : Int), .int .i64 y3] 81)).alloc (.cells (madeCells #[.int .u8 0] sz) 5)) ((((wr.alloc (.cells #[.int .i64 y1, .int .i64 (sz : Int), .int .i64 y3] 81)).alloc (.cells (madeCells #[.int .u8 0] sz) 5)).alloc (.cells #[.slice (some ⟨wr.heap.size + 1, 0, none⟩) sz sz] 82)).drew) := ((Below.refl _ _).alloc (Nat.le_refl _) _).drew
        have := hnl.top
        exact (ON.own how (by omega) how.lt).below h3 |>.wide (Nat.le_refl _) (Nat.le_trans (Nat.le_refl _) h3.size)
      have HOWN : Hid _ := hnl3.rows.own
      have HSZ : Hid (B + 2 ≤ ((((wr.alloc (.cells #[.int .i64 y1, .int .i64 (sz : Int), .int .i64 y3] 81)).alloc (.cells (madeCells #[.int .u8 0] sz) 5)).alloc (.cells #[.slice (some ⟨wr.heap.size + 1, 0, none⟩) sz sz] 82)).drew).heap.size) := hnl3.top
      have HLN : Hid ((rows0 xs k).length = sz ∧ m ≤ wr.heap.size) := ⟨by rw [hD]; simp, hnl.rows.mle⟩
      have HNW : Hid (∀ j u, [Value.slice (some ⟨wr.heap.size + 1, 0, none⟩) sz sz][j]? = some u → ((((wr.alloc (.cells #[.int .i64 y1, .int .i64 (sz : Int), .int .i64 y3] 81)).alloc (.cells (madeCells #[.int .u8 0] sz) 5)).alloc (.cells #[.slice (some ⟨wr.heap.size + 1, 0, none⟩) sz sz] 82)).drew).cell? ((⟨wr.heap.size + 1 + 1, 0, none⟩ : Addr).add j) = some u) := fun j u e => news_at ((wr.alloc (.cells #[.int .i64 y1, .int .i64 (sz : Int), .int .i64 y3] 81)).alloc (.cells (madeCells #[.int .u8 0] sz) 5)) _ 82 (wr.heap.size + 1 + 1) (by simp) j u e
      have hmk := run_make_bytes sz (by omega)
      have c2 := (hnl.var.alloc (.cells #[.int .i64 y1, .int .i64 (sz : Int), .int .i64 y3] 81)).cell 2 _ rfl
      have q1 := new_cell wr #[.int .i64 y1, .int .i64 (sz : Int), .int .i64 y3] 81 1 _ rfl
      clear hnl hnl3 hal1 hal2 hal3 hbl1 hD g1 g2 g3 g4 g5
      go_wp2
      have c2b := cell_alloc_l (.cells (madeCells #[.int .u8 0] sz) 5) c2
      have c2c := cell_alloc_l (.cells #[.slice (some ⟨wr.heap.size + 1, 0, none⟩) sz sz] 82) c2b
      have HLB := HLN.out.1
      go_region_law (first | (refine step_append_one rfl (.tmp 23) (.tmp 27) 34 rfl (B + 2) 82 iR (.slice none 0 0) 1 24 Tryz.underlying34 HI.out.1 HI.out.2.1 HI.out.2.2.1 HI.out.2.2.2 rfl (by omega) _ _ _ rfl HOWN.out ⟨wr.heap.size + 1 + 1, 0, none⟩ 1 1 [.slice (some ⟨wr.heap.size + 1, 0, none⟩) sz sz] rfl rfl HNW.out (one_slice _ _ _) (by omega) (by unfold maxLen; omega) (by omega) HSZ.out (some 28) rfl ?_; intro g cap1 w9 hown1 hgrow hat hlt1; have HPU : Hid _ := NL.push HNL.out (some ⟨wr.heap.size + 1, 0, none⟩) sz (wr.heap.size + 1) g cap1 HRW.out (fun _ => Nat.le_succ_of_le HLN.out.2) (by rw [HLN.out.1]; exact Nat.le_refl _) (by rw [HLN.out.1]; exact hown1) hgrow hat hlt1; have z2 := HPU.out.1.cell 2 _ rfl; have zf := HPU.out.1.free; clear hown1 hgrow hat hlt1))
      all_goals
        obtain ⟨m', A', C', R', HZ⟩ := HPU.out.2
        clear z2 zf c2 q1 c2b c2c
        go_wp2
        go_roundw
        case rel => exact ⟨k + 1, by omega, by go_num, _, _, _, _, _, HZ⟩
        case measure => simp [intOf]; omega
    · obtain rfl : k = n := by omega
      obtain ⟨a', c', e', hrows⟩ := hnl.rows.rows
      cases e'
      have V4 := hnl.var
      have K4 := hnl.b0
      have p0 := V4.cell 0 _ rfl
      have p1 := V4.cell 1 _ rfl
      have p2 := V4.cell 2 _ rfl
      have d0 := K4.cell 0 _ rfl
      have d1 := (K4.set 0 (.slice (some ⟨B, 0, none⟩) 16 16) (by simp) rfl).cell 1 _ rfl
      have d2 := ((K4.set 0 (.slice (some ⟨B, 0, none⟩) 16 16) (by simp) rfl).set 1 (.int .u32 pc) (by simp) rfl).cell 2 _ rfl
      have df := K4.free
      have G2 := ((K4.set 0 (.slice (some ⟨B, 0, none⟩) 16 16) (by simp) rfl).set 1 (.int .u32 pc) (by simp) rfl).set 2 (.slice av k cv) (by simp) rfl
      have n0 := G2.cell 0 _ rfl
      have n1 := G2.cell 1 _ rfl
      have n2 := G2.cell 2 _ rfl
      have HZ : Hid (ON .u32 wr B (B + 1) (some ⟨B, 0, none⟩) regs0 B ∧ BRows wr (B + 2) m av k (rows0 xs) ∧ Below w.heap.size w wr ∧ w.heap.size < B ∧ B + 2 ≤ wr.heap.size ∧ m ≤ wr.heap.size) := ⟨hnl.regs, hrows, hnl.bel, hnl.low, hnl.top, hnl.rows.mle⟩
      clear V4 K4 G2 hrows hnl
      go_wp2
      obtain ⟨h1, h2, h3, h4, h5, h6⟩ := HZ.out
      have hbt := (((Betw.refl w.heap.size (w.heap.size + 1) wr).setCell (p := ⟨w.heap.size, 0, none⟩) (by simp) (by simp) (.slice (some ⟨B, 0, none⟩) 16 16)).setCell (p := ⟨w.heap.size, 1, none⟩) (by simp) (by simp) (.int .u32 pc)).setCell (p := ⟨w.heap.size, 2, none⟩) (by simp) (by simp) (.slice av k cv)
      refine bodyPost_ret (v := gst (some ⟨B, 0, none⟩) 16 16 pc av k cv) (by simp [results, Tryz.results38, go_sem, n0, n1, n2]) rfl ⟨_, _, _, _, B + 2, by rw [HPC.out], ?_, ⟨⟨B, (h1.betw hbt (fun _ => .inr (by omega))).wide (by omega) (by omega)⟩, (h2.betw hbt (.inr (by omega))).wide (Nat.le_refl _) (by simpa using h6)⟩, by omega, by simpa using h5⟩
      exact ((h3.setCell (p := ⟨w.heap.size, 0, none⟩) (by simp) _).setCell (p := ⟨w.heap.size, 1, none⟩) (by simp) _).setCell (p := ⟨w.heap.size, 2, none⟩) (by simp) _
namespace Wd
def bytes (x : Int) : List Int := [x % 256, x / 256 % 256, x / 65536 % 256, x / 16777216]
end Wd
theorem own_four (w : World) (a b c d : Int) (T : TypeId) : Own .u8 (w.alloc (.cells #[.int .u8 a, .int .u8 b, .int .u8 c, .int .u8 d] T)) w.heap.size [a, b, c, d] := by
  have h := World.rowIs_alloc w #[.int .u8 a, .int .u8 b, .int .u8 c, .int .u8 d] T (fun i => .int .u8 ([a, b, c, d].getD i 0)) (by
    intro i hi
    match i, hi with
    | 0, _ => rfl
    | 1, _ => rfl
    | 2, _ => rfl
    | 3, _ => rfl)
  exact ⟨by simp, fun i hi => h.cell hi, fun i => h.frozen i⟩
set_option maxHeartbeats 400000 in
theorem spec_bytes (x : Int) (w : World) (h1 : 0 ≤ x) (h2 : x ≤ 4294967295) :
    Calls Tryz.prog 29 #[.int .u32 x] w fun e w' => e = .returned (.slice (some ⟨w.heap.size, 0, none⟩) 4 4) ∧ Below w.heap.size w w' ∧ w'.heap.size = w.heap.size + 1 ∧ Own .u8 w' w.heap.size (Wd.bytes x) := by
  go_enter Tryz.func29, Tryz.ntmps29
  go_wp2
  go_ret
  exact ⟨rfl, (Below.refl _ _).alloc (Nat.le_refl _) _, by simp, own_four w _ _ _ _ 5⟩
set_option maxHeartbeats 400000 in
theorem word_bytes (x : Int) (w : World) (h1 : 0 ≤ x) (h2 : x ≤ 4294967295) :
    Calls Tryz.prog 84 #[.int .u32 x] w fun e w' => e = .returned (.slice (some ⟨w.heap.size, 0, none⟩) 4 4) ∧ Below w.heap.size w w' ∧ w'.heap.size = w.heap.size + 1 ∧ Own .u8 w' w.heap.size (Wd.bytes x) := by
  have hmk : ∀ w : World, (Instr.makeSlice 82 (.int .i64 4) (.int .i64 4)).run Tryz.prog w = .ok (.slice (some ⟨w.heap.size, 0, none⟩) 4 4) (w.alloc (.cells #[.int .u8 0, .int .u8 0, .int .u8 0, .int .u8 0] 5)) := fun _ => by kernel_rfl
  go_enter Tryz.func84, Tryz.ntmps84
  go_wp2
  refine wp_loop_rounds 5 ?_
  rw [rounds_succ]
  go_wp2
  rw [rounds_succ]
  go_wp2
  rw [rounds_succ]
  go_wp2
  rw [rounds_succ]
  go_wp2
  rw [rounds_succ]
  go_wp2
  go_ret
  exact ⟨rfl, (Below.refl _ _).alloc (Nat.le_refl _) _, by simp, own_four w _ _ _ _ 5⟩
theorem impl_bytes (x : Int) (w : World) (h1 : 0 ≤ x) (h2 : x ≤ 4294967295) :
    Calls Tryz.prog 40 #[.int .u32 x] w fun e w' => e = .returned (.slice (some ⟨w.heap.size, 0, none⟩) 4 4) ∧ Below w.heap.size w w' ∧ w'.heap.size = w.heap.size + 1 ∧ Own .u8 w' w.heap.size (Wd.bytes x) := by
  go_enter Tryz.func40, Tryz.ntmps40
  go_wp2_with fail
  refine Calls.mono (word_bytes x _ h1 h2) ?_
  rintro e w1 ⟨rfl, hb, hs, ho⟩
  go_wp2
  go_ret
  exact ⟨rfl, hb, hs, ho⟩
end Go.Proofs.YtdmlgnmklnaehaaGreatDoor
