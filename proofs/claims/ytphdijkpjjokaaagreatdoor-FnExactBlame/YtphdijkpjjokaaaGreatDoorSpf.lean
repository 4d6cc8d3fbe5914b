
/-
  What a span still has from a cycle on: the program's walk. Conditions: the lists lie in memory, the tables are sound.
-/
import Derived.Test.YtphdijkpjjokaaaGreatDoorBas
import Derived.Test.YtphdijkpjjokaaaGreatDoorSpr
import Derived.Test.YtphdijkpjjokaaaGreatDoorTid
import Derived.Test.YtphdijkpjjokaaaGreatDoorTio
import Derived.Test.YtphdijkpjjokaaaGreatDoorLsw
namespace Go.Proofs.YtphdijkpjjokaaaGreatDoor
open Go.ChangeShapes Go.WideShapes Go.ChangeAt Go.RowKit Go.Deep Go.Joins
set_option linter.unusedVariables false

theorem r3_set {V : World} {B : Nat} {cs cs' : Array Value} {T : TypeId} (h : V.heap[B]? = some (.cells cs T (0, 0))) (j : Nat) (v : Value) (he : cs.setIfInBounds j v = cs') : (V.setCell ⟨B, j, none⟩ v).heap[B]? = some (.cells cs' T (0, 0)) := by
  rw [setCell_eq_setRow V B j cs T (0, 0) v h, setRow_heap V B _ _ T (0, 0) h, he]
theorem row_cell {V : World} {B : Nat} {cs : Array Value} {T : TypeId} (h : V.heap[B]? = some (.cells cs T (0, 0))) (j : Nat) (v : Value) (hj : cs[j]? = some v) : V.cell? ⟨B, j, none⟩ = some v := by simp [World.cell?, h, hj]
theorem row_free {V : World} {B : Nat} {cs : Array Value} {T : TypeId} (h : V.heap[B]? = some (.cells cs T (0, 0))) (j : Nat) : V.frozen? ⟨B, j, none⟩ = false := by simp [World.frozen?, h]
theorem row_lt {V : World} {B : Nat} {cs : Array Value} {T : TypeId} (h : V.heap[B]? = some (.cells cs T (0, 0))) : B < V.heap.size := (Array.getElem?_eq_some_iff.1 h).1
theorem row_other {V : World} {B C j : Nat} {v : Value} {cs : Array Value} {T : TypeId} (h : V.heap[B]? = some (.cells cs T (0, 0))) (hn : B ≠ C) : (V.setCell ⟨C, j, none⟩ v).heap[B]? = some (.cells cs T (0, 0)) := (Below.heap_setCell _ _ _ _ hn).trans h
theorem tn_ex {t : Tb} (h : Tm t) (c : Int) : ∃ (i : Nat) (r : Int), TN t c i r := by
  obtain ⟨r, hr, hk⟩ := start_first h (c % t.maj)
  by_cases e : r < t.ss.length
  · exact ⟨r, _, next_here h e hk⟩
  · exact ⟨0, _, next_later h (fun k hkl g => by have := (hk k hkl).1 g; omega)⟩
theorem tn_uni {t : Tb} (h : Tm t) {c r s : Int} {i j : Nat} (g : TN t c i r) (k : TN t c j s) : i = j ∧ r = s := by
  have e : r = s := NX.unique g.2.2.1 k.2.2.1
  subst e
  refine ⟨?_, rfl⟩
  have h1 := g.2.1
  have h2 := k.2.1
  have hp := h.pad1
  have hg := h.grd1
  rcases Nat.lt_trichotomy i j with q | q | q
  · have := h.od i j q k.1; have := h.ln i g.1; omega
  · exact q
  · have := h.od j i q g.1; have := h.ln j k.1; omega
theorem res_rest {W : World} {B : Nat} {cs : Array Value} {tmps : Array Value} (h : W.heap[B]? = some (.cells cs 64 (0, 0))) (hl : cs.size = 4) (ht : tmps[4]? = some (.pointer (some ⟨B, 0, none⟩))) : (results Tryz.f63 tmps).run Tryz.prog W = .ok (.agg cs) W := by
  have hld : (loadVar 64 ⟨B, 0, none⟩).run Tryz.prog W = .ok (.agg cs) W := run_loadVar_row (P := Tryz.prog) W B 64 64 cs (0, 0) _ h Tryz.underlying64 rfl (by rw [hl]; kernel_rfl)
  unfold results
  rw [Tryz.results63]
  simp [ht, asAddr, hld]
structure R4 (W0 : World) (Z C : Array Value) (N : Nat) (v0 : Value) (v1 : Value) (v2 : Value) (v3 : Value) (v4 : Value) (v5 : Value) (v6 : Value) (v7 : Value) (v8 : Value) (v9 : Value) (w' : World) (b0 b1 b2 b3 b4 b5 b6 b7 b8 b9 b10 : Bool) (x23 x24 x25 x26 x27 x28 x29 x30 x31 x32 : Value) : Prop where
  cs : b10 = true → b0 = true ∧ b1 = true ∧ b2 = true ∧ b3 = true ∧ b4 = true ∧ b5 = true ∧ b6 = true ∧ b7 = true ∧ b8 = true ∧ b9 = true ∧ True
  gb : Below N W0 w'
  pre : b10 = false → Below W0.heap.size W0 w'
  r0 : b10 = false → w'.heap[N]? = some (.cells Z 64 (0, 0))
  r1 : b10 = true → w'.heap[N]? = some (.cells C 64 (0, 0))
  f0 : b0 = true → x23 = v0
  f1 : b1 = true → x24 = v1
  f2 : b2 = true → x25 = v2
  f3 : b3 = true → x26 = v3
  f4 : b4 = true → x27 = v4
  f5 : b5 = true → x28 = v5
  f6 : b6 = true → x29 = v6
  f7 : b7 = true → x30 = v7
  f8 : b8 = true → x31 = v8
  f9 : b9 = true → x32 = v9
theorem R4.below {W0 : World} {Z C : Array Value} {N : Nat} {v0 : Value} {v1 : Value} {v2 : Value} {v3 : Value} {v4 : Value} {v5 : Value} {v6 : Value} {v7 : Value} {v8 : Value} {v9 : Value} {w' w9 : World} {b0 b1 b2 b3 b4 b5 b6 b7 b8 b9 b10 : Bool} {x23 x24 x25 x26 x27 x28 x29 x30 x31 x32 : Value} (h : R4 W0 Z C N v0 v1 v2 v3 v4 v5 v6 v7 v8 v9 w' b0 b1 b2 b3 b4 b5 b6 b7 b8 b9 b10 x23 x24 x25 x26 x27 x28 x29 x30 x31 x32) (hb : Below w'.heap.size w' w9) (hN : N ≤ w'.heap.size) : R4 W0 Z C N v0 v1 v2 v3 v4 v5 v6 v7 v8 v9 w9 b0 b1 b2 b3 b4 b5 b6 b7 b8 b9 b10 x23 x24 x25 x26 x27 x28 x29 x30 x31 x32 :=
  ⟨h.cs, h.gb.trans (hb.mono hN), fun g => (h.pre g).trans (hb.mono (h.pre g).size), fun g => row_below (h.r0 g) hb, fun g => row_below (h.r1 g) hb, h.f0, h.f1, h.f2, h.f3, h.f4, h.f5, h.f6, h.f7, h.f8, h.f9⟩
structure R6 (W0 : World) (Z C : Array Value) (v0 : Value) (v1 : Value) (v2 : Value) (v3 : Value) (v4 : Value) (v5 : Value) (v6 : Value) (w' : World) (b0 b1 b2 b3 b4 b5 b6 b7 b8 : Bool) (x34 x35 x36 x37 x38 x39 x40 x7 : Value) : Prop where
  cs : b8 = true → b0 = true ∧ b1 = true ∧ b2 = true ∧ b3 = true ∧ b4 = true ∧ b5 = true ∧ b6 = true ∧ b7 = true ∧ True
  gb : Below W0.heap.size W0 w'
  f0 : b0 = true → x34 = v0
  f1 : b1 = true → x35 = v1
  f2 : b2 = true → x36 = v2
  f3 : b3 = true → x37 = v3
  f4 : b4 = true → x38 = v4
  f5 : b5 = true → x39 = v5
  f6 : b6 = true → x40 = v6
  f7 : b7 = true → ∃ N, x7 = .pointer (some ⟨N, 0, none⟩) ∧ W0.heap.size ≤ N ∧ (b8 = false → w'.heap[N]? = some (.cells Z 98 (0, 0))) ∧ (b8 = true → w'.heap[N]? = some (.cells C 98 (0, 0)))
theorem R6.below {W0 : World} {Z C : Array Value} {v0 : Value} {v1 : Value} {v2 : Value} {v3 : Value} {v4 : Value} {v5 : Value} {v6 : Value} {w' w9 : World} {b0 b1 b2 b3 b4 b5 b6 b7 b8 : Bool} {x34 x35 x36 x37 x38 x39 x40 x7 : Value} (h : R6 W0 Z C v0 v1 v2 v3 v4 v5 v6 w' b0 b1 b2 b3 b4 b5 b6 b7 b8 x34 x35 x36 x37 x38 x39 x40 x7) (hb : Below w'.heap.size w' w9) : R6 W0 Z C v0 v1 v2 v3 v4 v5 v6 w9 b0 b1 b2 b3 b4 b5 b6 b7 b8 x34 x35 x36 x37 x38 x39 x40 x7 :=
  ⟨h.cs, h.gb.trans (hb.mono h.gb.size), h.f0, h.f1, h.f2, h.f3, h.f4, h.f5, h.f6, fun g => (h.f7 g).imp fun N k => ⟨k.1, k.2.1, fun s => row_below (k.2.2.1 s) hb, fun s => row_below (k.2.2.2 s) hb⟩⟩
set_option maxRecDepth 40000 in
set_option maxHeartbeats 8000000 in
theorem rest_from (t : Tb) (a : Ad) (c : Int) (w : World) (hm : TM 0 w t a) (hw : TW t a) (hs : TS a) (hcs : a.sn ≤ a.sc) (ht : Tm t) (hc : 0 ≤ c) (hc2 : c ≤ 1000000) :
    Calls Tryz.prog 63 #[tbV t a, .int .i64 c] w fun e w' => ∃ r, e = .returned (.agg #[.int .i64 c, .int .i64 r, .int .i64 (whoV t (c % t.maj)), .int .i64 (phaseV t (c % t.maj))]) ∧ RT t c r ∧ Below w.heap.size w w' := by
  have HTM : Hid (Tm t) := ht
  have hmj := ht.maj2
  have hpp : 0 ≤ c % t.maj ∧ c % t.maj < t.maj := mod_lt ht.maj1
  have hpl : c % t.maj ≤ c := by
    by_cases g : c < t.maj
    · rw [Int.emod_eq_of_lt hc g]; exact Int.le_refl _
    · omega
  have HCP : Hid (∀ X, Calls Tryz.prog 79 #[tbV t a, .int .i64 c] X fun e w' => e = .returned (.int .i64 (c % t.maj)) ∧ Below X.heap.size X w') := fun X => place_of t a c _ X ht.maj1 hc hc2 rfl
  have HPH : Hid (∀ X, Below w.heap.size w X → Calls Tryz.prog 80 #[tbV t a, .int .i64 c] X fun e w' => e = .returned (.int .i64 (phaseV t (c % t.maj))) ∧ Below X.heap.size X w') := fun X hX => phase_at t a c X (hm.below hX) hw hs hcs ht hc hc2
  have HNX : Hid (∀ X, Below w.heap.size w X → Calls Tryz.prog 81 #[tbV t a, .int .i64 c] X fun e w' => (∃ (i : Nat) (r : Int), e = .returned (.agg #[.int .i64 (t.ss.getD i sl0).1, .int .i64 r, .int .i64 (t.ss.getD i sl0).2.2]) ∧ TN t c i r) ∧ Below X.heap.size X w') := fun X hX => next_turn t a c X (hm.below hX) hw hs hcs ht hc hc2
  have HSX : Hid (∀ X, Below w.heap.size w X → Calls Tryz.prog 82 #[tbV t a, .int .i64 c] X fun e w' => e = .returned (.int .i64 (slotV t (c % t.maj))) ∧ Below X.heap.size X w') := fun X hX => slot_at t a c X (hm.below hX) hw hs hcs ht hc hc2
  have HSL : Hid (∀ X, Below w.heap.size w X → GSeg 3 X a.sa a.sn (slX t.ss)) := fun X hX => (hm.below hX).s.seg
  have hL : t.ss.length = a.sn := hw.sl
  have hn : a.sn ≤ 1048576 := hs.s
  have HRF : Hid (∀ i r, slotV t (c % t.maj) = -1 → TN t c i r → RT t c (min r (c - c % t.maj + t.maj))) := fun i r h1 h2 => rt_free ht hc h1 h2
  have HRS : Hid (∀ i : Nat, i < t.ss.length → slotV t (c % t.maj) = (i : Int) → RT t c (c - c % t.maj + rsV t (t.ss.getD i sl0) (phaseV t (c % t.maj)))) := fun i h1 h2 => rt_slot ht hc h1 h2
  have HPS : Hid (phaseV t (c % t.maj) ≠ 0 → ∃ i : Nat, i < t.ss.length ∧ slotV t (c % t.maj) = (i : Int) ∧ HasP (t.ss.getD i sl0) (c % t.maj)) := phaseV_slot
  have HPN : Hid (∀ i : Nat, slotV t (c % t.maj) = (i : Int) → phaseV t (c % t.maj) ≠ 0) := fun i h => by
    rw [phaseV_at h]
    split
    · omega
    · split <;> omega
  have HPC := phaseV_cases t (c % t.maj)
  have HB2 : Hid (Below w.heap.size w ((w.alloc (.cells (tbA t a) 41)).alloc (.cells #[.int .i64 0, .int .i64 0, .int .i64 0, .int .i64 0] 64))) := ((Below.refl _ _).alloc (Nat.le_refl _) _).alloc (by simp) _
  have HX2 : Hid (TBx ((w.alloc (.cells (tbA t a) 41)).alloc (.cells #[.int .i64 0, .int .i64 0, .int .i64 0, .int .i64 0] 64)) w.heap.size t a) := (TBx.new w t a _ rfl).below ((Below.refl _ _).alloc (Nat.le_refl _) _)
  have HR2 : Hid (((w.alloc (.cells (tbA t a) 41)).alloc (.cells #[.int .i64 0, .int .i64 0, .int .i64 0, .int .i64 0] 64)).heap[w.heap.size + 1]? = some (.cells #[.int .i64 0, .int .i64 0, .int .i64 0, .int .i64 0] 64 (0, 0))) := new_row (w.alloc (.cells (tbA t a) 41)) _ _ _ (by simp)
  obtain ⟨p, HP⟩ : ∃ p, Hid (c % t.maj = p) := ⟨_, rfl⟩
  rw [HP.out] at HCP HPH HSX HRF HRS HPS HPN hpp hpl HPC ⊢
  obtain ⟨f, HF⟩ : ∃ f, Hid (phaseV t p = f) := ⟨_, rfl⟩
  obtain ⟨wo, HWO⟩ : ∃ x, Hid (whoV t p = x) := ⟨_, rfl⟩
  rw [HWO.out]
  rw [HF.out] at HPH HRS HPS HPN HPC ⊢
  obtain ⟨bd, HBD⟩ : ∃ bd, Hid (c - p = bd) := ⟨_, rfl⟩
  have hbd : 0 ≤ bd ∧ bd ≤ 1000000 := by have := HBD.out; omega
  rw [HBD.out] at HRF HRS
  have hwb : IntKind.i64.wrap (c - p) = bd := by rw [IntKind.wrap_i64]; have := HBD.out; omega
  clear hm hw hs ht hcs
  go_enter Tryz.func63, Tryz.ntmps63
  go_wp2_with (first | (refine wpList_load_row rfl 41 (.tmp 2) rfl w.heap.size rfl 41 (tbA t a) (0, 0) _ HX2.out Tryz.underlying41 rfl (by kernel_rfl) ?_) | fail)
  refine Calls.mono (HCP.out _) ?_
  rintro e w1 ⟨rfl, hb1⟩
  have HB1 : Hid (Below w.heap.size w w1) := HB2.out.trans (hb1.mono HB2.out.size)
  have HX1 : Hid (TBx w1 w.heap.size t a) := HX2.out.below hb1
  have HR1 : Hid (w1.heap[w.heap.size + 1]? = some (.cells #[.int .i64 0, .int .i64 0, .int .i64 0, .int .i64 0] 64 (0, 0))) := row_below HR2.out hb1
  clear hb1 HB2 HX2 HR2 HCP
  go_wp2_with (first | (refine wpList_load_row rfl 41 (.tmp 2) rfl w.heap.size rfl 41 (tbA t a) (0, 0) _ HX1.out Tryz.underlying41 rfl (by kernel_rfl) ?_) | fail)
  refine Calls.mono (HPH.out _ HB1.out) ?_
  rintro e w2 ⟨rfl, hb2⟩
  have HB3 : Hid (Below w.heap.size w w2) := HB1.out.trans (hb2.mono HB1.out.size)
  have HX3 : Hid (TBx w2 w.heap.size t a) := HX1.out.below hb2
  have HR3 : Hid (w2.heap[w.heap.size + 1]? = some (.cells #[.int .i64 0, .int .i64 0, .int .i64 0, .int .i64 0] 64 (0, 0))) := row_below HR1.out hb2
  clear hb2 HB1 HX1 HR1 HPH
  have hb4 : Below w2.heap.size w2 (w2.alloc (.cells #[.int .i64 c, .int .i64 0, .int .i64 (-1), .int .i64 f] 64)) := (Below.refl _ _).alloc (Nat.le_refl _) _
  have HB : Hid (Below w.heap.size w (w2.alloc (.cells #[.int .i64 c, .int .i64 0, .int .i64 (-1), .int .i64 f] 64))) := HB3.out.trans (hb4.mono HB3.out.size)
  have HX : Hid (TBx (w2.alloc (.cells #[.int .i64 c, .int .i64 0, .int .i64 (-1), .int .i64 f] 64)) w.heap.size t a) := HX3.out.below hb4
  have H4 : Hid ((w2.alloc (.cells #[.int .i64 c, .int .i64 0, .int .i64 (-1), .int .i64 f] 64)).heap[w.heap.size + 1]? = some (.cells #[.int .i64 0, .int .i64 0, .int .i64 0, .int .i64 0] 64 (0, 0))) := row_below HR3.out hb4
  have HRZ : Hid ((w2.alloc (.cells #[.int .i64 c, .int .i64 0, .int .i64 (-1), .int .i64 f] 64)).heap[w2.heap.size]? = some (.cells #[.int .i64 c, .int .i64 0, .int .i64 (-1), .int .i64 f] 64 (0, 0))) := new_row w2 _ _ _ rfl
  have HN6 : Hid (w.heap.size ≤ (w2.alloc (.cells #[.int .i64 c, .int .i64 0, .int .i64 (-1), .int .i64 f] 64)).heap.size ∧ w.heap.size + 1 < w2.heap.size) := ⟨HB.out.size, row_lt HR3.out⟩
  have HNW : Hid (w2.heap.size ≤ (w2.alloc (.cells #[.int .i64 c, .int .i64 0, .int .i64 (-1), .int .i64 f] 64)).heap.size) := hb4.size
  clear hb4 HB3 HX3 HR3
  have c3 := row_cell HRZ.out 3 _ rfl
  rcases HPC with hf | hf | hf | hf
  all_goals subst hf
  · go_wp2
    revert HB HX H4 HRZ HN6 HNW
    generalize (w2.alloc (.cells #[.int .i64 c, .int .i64 0, .int .i64 (-1), .int .i64 0] 64)) = WB
    generalize w2.heap.size = N6
    intro HB HX H4 HRZ HN6 HNW
    clear c3
    have HXB : Hid (∀ X, Below WB.heap.size WB X → TBx X w.heap.size t a) := fun X hX => HX.out.below hX
    obtain ⟨i0, r0, hTN⟩ := tn_ex HTM.out c
    have hs1 : slotV t p = -1 := by
      rcases slotV_cases t p with ⟨g, _⟩ | ⟨j, _, g, _⟩
      · exact g
      · exact absurd rfl (HPN.out j g)
    have HRT : Hid (RT t c (min r0 (bd + t.maj))) := HRF.out i0 r0 hs1 hTN
    have HUN : Hid (∀ (i : Nat) (r : Int), TN t c i r → i = i0 ∧ r = r0) := fun i r g => tn_uni HTM.out g hTN
    have HWE : Hid (wo = -1) := by show _ = _; rw [← HWO.out]; unfold whoV; rw [hs1, if_pos (by decide)]
    have HMJ : Hid (∀ X, Below WB.heap.size WB X → X.cell? ⟨w.heap.size, 14, none⟩ = some (.int .i64 t.maj)) := fun X hX => (HXB.out X hX).cell 14 rfl
    obtain ⟨y1, hy1⟩ : ∃ y, (t.ss.getD i0 sl0).1 = y := ⟨_, rfl⟩
    obtain ⟨y3, hy3⟩ : ∃ y, (t.ss.getD i0 sl0).2.2 = y := ⟨_, rfl⟩
    have HNT : Hid (∀ X, Below WB.heap.size WB X → Calls Tryz.prog 81 #[tbV t a, .int .i64 c] X fun e w' => e = .returned (.agg #[.int .i64 y1, .int .i64 r0, .int .i64 y3]) ∧ Below X.heap.size X w') := fun X hX =>
      (HNX.out X (HB.out.trans (hX.mono HN6.out.1))).mono fun e w' ⟨⟨i, r, e1, e2⟩, hb⟩ => by
        obtain ⟨rfl, rfl⟩ := HUN.out i r e2
        rw [← hy1, ← hy3]
        exact ⟨e1, hb⟩
    have HWR : Hid (IntKind.i64.wrap (bd + t.maj) = bd + t.maj) := by
      have := HTM.out.maj1
      show _ = _
      rw [IntKind.wrap_i64]; omega
    have hr0 : -1000000 ≤ r0 ∧ r0 ≤ 2000000 := by have := hTN.2.2.1.1; have := hTN.2.2.2; omega
    clear HNX HSX HSL HRF HRS HPS HPN HUN hTN hs1 HWO hy1 hy3 HX
    generalize t.maj = mj at *
    refine wp_region_inv (by kernel_rfl) (by kernel_rfl) (fun A ℓ a' w' => ∃ (x23 x24 x25 x26 x27 x28 x29 x30 x31 x32 : Value), a' = ((((((((((A.put (some 23) x23).put (some 24) x24).put (some 25) x25).put (some 26) x26).put (some 27) x27).put (some 28) x28).put (some 29) x29).put (some 30) x30).put (some 31) x31).put (some 32) x32) ∧ R4 (WB) (#[.int .i64 c, .int .i64 0, .int .i64 (-1), .int .i64 0]) (#[.int .i64 c, .int .i64 (min r0 (bd + mj)), .int .i64 (-1), .int .i64 0]) (N6) (tbV t a) (.int .i64 c) (.agg #[.int .i64 y1, .int .i64 r0, .int .i64 y3]) (.int .i64 r0) (.int .i64 bd) (.pointer (some ⟨w.heap.size, 14, none⟩)) (.int .i64 mj) (.int .i64 (bd + mj)) (.int .i64 (min r0 (bd + mj))) (.pointer (some ⟨N6, 1, none⟩)) w' (ℓ 0) (ℓ 1) (ℓ 2) (ℓ 3) (ℓ 4) (ℓ 5) (ℓ 6) (ℓ 7) (ℓ 8) (ℓ 9) (ℓ 10) x23 x24 x25 x26 x27 x28 x29 x30 x31 x32) ?_ ?_ ?_ ?_
    · exact ⟨undef, undef, undef, undef, undef, undef, undef, undef, undef, undef, (by simp only [Act.put, List.setIfInBounds_toArray, List.set_cons_zero, List.set_cons_succ]), ⟨(fun g => by cases g), ((Below.refl _ _).mono HNW.out).drew, (fun _ => (Below.refl _ _).drew), (fun _ => HRZ.out), (fun g => by cases g), (fun g => by cases g), (fun g => by cases g), (fun g => by cases g), (fun g => by cases g), (fun g => by cases g), (fun g => by cases g), (fun g => by cases g), (fun g => by cases g), (fun g => by cases g), (fun g => by cases g)⟩⟩
    · intro ℓ a' w' hI hall
      obtain ⟨x23, x24, x25, x26, x27, x28, x29, x30, x31, x32, rfl, hr⟩ := hI
      have hall' : ∀ i, i < 11 → ℓ i = true := hall
      obtain rfl := hr.f0 (hall' 0 (by decide))
      obtain rfl := hr.f1 (hall' 1 (by decide))
      obtain rfl := hr.f2 (hall' 2 (by decide))
      obtain rfl := hr.f3 (hall' 3 (by decide))
      obtain rfl := hr.f4 (hall' 4 (by decide))
      obtain rfl := hr.f5 (hall' 5 (by decide))
      obtain rfl := hr.f6 (hall' 6 (by decide))
      obtain rfl := hr.f7 (hall' 7 (by decide))
      obtain rfl := hr.f8 (hall' 8 (by decide))
      obtain rfl := hr.f9 (hall' 9 (by decide))
      have hrow := hr.r1 (hall' 10 (by decide))
      have hgb := hr.gb
      clear hall hall' hr
      simp only [Act.put, List.setIfInBounds_toArray, List.set_cons_zero, List.set_cons_succ]
      have HB9 : Hid (Below w.heap.size w w') := HB.out.trans (hgb.mono (by have := HN6.out.2; omega))
      have HR9 : Hid (w'.heap[N6]? = some (.cells #[.int .i64 c, .int .i64 (min r0 (bd + mj)), .int .i64 (-1), .int .i64 0] 64 (0, 0))) := hrow
      have H49 : Hid (w'.heap[w.heap.size + 1]? = some (.cells #[.int .i64 0, .int .i64 0, .int .i64 0, .int .i64 0] 64 (0, 0))) := (hgb.block _ HN6.out.2).trans H4.out
      clear hrow hgb
      go_wp2_with (first | (refine wpList_load_row rfl 64 (.tmp 6) rfl N6 rfl 64 (#[.int .i64 c, .int .i64 (min r0 (bd + mj)), .int .i64 (-1), .int .i64 0]) (0, 0) _ HR9.out Tryz.underlying64 rfl (by kernel_rfl) ?_) | (refine wpList_store_row rfl 64 (.tmp 4) (.tmp 33) rfl (w.heap.size + 1) (#[.int .i64 c, .int .i64 (min r0 (bd + mj)), .int .i64 (-1), .int .i64 0]) rfl rfl 64 (#[.int .i64 0, .int .i64 0, .int .i64 0, .int .i64 0]) H49.out (by kernel_rfl) rfl (by simp [Value.oneCell']) ?_) | fail)
      exact bodyPost_ret (v := .agg #[.int .i64 c, .int .i64 (min r0 (bd + mj)), .int .i64 (-1), .int .i64 0]) (res_rest (setRow_heap _ _ _ _ _ _ H49.out) rfl rfl) rfl ⟨_, by rw [HWE.out], HRT.out, below_setRow HB9.out (Nat.le_succ _) _⟩
    · intro ℓ a' w' i o hI ho hi hL hdep K hK
      obtain ⟨x23, x24, x25, x26, x27, x28, x29, x30, x31, x32, rfl, hr⟩ := hI
      have hi7 : i < 11 := hi
      have hcs : i = 0 ∨ i = 1 ∨ i = 2 ∨ i = 3 ∨ i = 4 ∨ i = 5 ∨ i = 6 ∨ i = 7 ∨ i = 8 ∨ i = 9 ∨ i = 10 := by omega
      clear hi hi7
      rcases hcs with rfl | rfl | rfl | rfl | rfl | rfl | rfl | rfl | rfl | rfl | rfl
      · replace ho : some ({ dst := some 23, op := .load 41 (.tmp 2), type := 41, pos := "l24_audit.go:25", after := #[], guard := none } : Oper) = some o := ho
        revert hK
        obtain rfl := Option.some.inj ho
        clear hdep ho
        have hl : ℓ 10 = false := by
          cases h7 : ℓ 10
          · rfl
          · have := (hr.cs h7).1; rw [this] at hL; cases hL
        have hgb : Below (WB).heap.size (WB) w' := hr.pre hl
        intro hK
        rw [if_pos (by rfl)]
        try simp only [Act.put, List.setIfInBounds_toArray, List.set_cons_zero, List.set_cons_succ]
        refine wp_load_row (P := Tryz.prog) 41 (.tmp 2) rfl w.heap.size rfl 41 (tbA t a) (0, 0) _ ((HXB.out _ hgb)) Tryz.underlying41 rfl (by kernel_rfl) ?_
        exact hK.out _ _ (fun j => if j = 0 then true else ℓ j) ⟨(tbV t a), x24, x25, x26, x27, x28, x29, x30, x31, x32, (by first | (simp only [Act.put, List.setIfInBounds_toArray, List.set_cons_zero, List.set_cons_succ]; done) | (simp only [Act.put, List.setIfInBounds_toArray, List.set_cons_zero, List.set_cons_succ]; rfl)), ⟨(fun g => ⟨rfl, (hr.cs g).2.1, (hr.cs g).2.2.1, (hr.cs g).2.2.2.1, (hr.cs g).2.2.2.2.1, (hr.cs g).2.2.2.2.2.1, (hr.cs g).2.2.2.2.2.2.1, (hr.cs g).2.2.2.2.2.2.2.1, (hr.cs g).2.2.2.2.2.2.2.2.1, (hr.cs g).2.2.2.2.2.2.2.2.2.1, trivial⟩), hr.gb, hr.pre, hr.r0, hr.r1, (fun _ => rfl), hr.f1, hr.f2, hr.f3, hr.f4, hr.f5, hr.f6, hr.f7, hr.f8, hr.f9⟩⟩ (if_pos rfl) (fun j hj => if_neg hj)
      · revert hK
        obtain rfl := Option.some.inj ho
        clear hdep ho
        intro hK
        rw [if_pos (by rfl)]
        try simp only [Act.put, List.setIfInBounds_toArray, List.set_cons_zero, List.set_cons_succ]
        go_simp
        exact hK.out _ _ (fun j => if j = 1 then true else ℓ j) ⟨x23, (.int .i64 c), x25, x26, x27, x28, x29, x30, x31, x32, (by first | (simp only [Act.put, List.setIfInBounds_toArray, List.set_cons_zero, List.set_cons_succ]; done) | (simp only [Act.put, List.setIfInBounds_toArray, List.set_cons_zero, List.set_cons_succ]; rfl)), ⟨(fun g => ⟨(hr.cs g).1, rfl, (hr.cs g).2.2.1, (hr.cs g).2.2.2.1, (hr.cs g).2.2.2.2.1, (hr.cs g).2.2.2.2.2.1, (hr.cs g).2.2.2.2.2.2.1, (hr.cs g).2.2.2.2.2.2.2.1, (hr.cs g).2.2.2.2.2.2.2.2.1, (hr.cs g).2.2.2.2.2.2.2.2.2.1, trivial⟩), hr.gb, hr.pre, hr.r0, hr.r1, hr.f0, (fun _ => rfl), hr.f2, hr.f3, hr.f4, hr.f5, hr.f6, hr.f7, hr.f8, hr.f9⟩⟩ (if_pos rfl) (fun j hj => if_neg hj)
      · revert hK
        obtain rfl := Option.some.inj ho
        have g0 : ℓ 0 = true := hdep { on := 0, ground := Ground.data } (by simp) rfl
        have g1 : ℓ 1 = true := hdep { on := 1, ground := Ground.data } (by simp) rfl
        clear hdep ho
        have hl : ℓ 10 = false := by
          cases h7 : ℓ 10
          · rfl
          · have := (hr.cs h7).2.2.1; rw [this] at hL; cases hL
        have hgb : Below (WB).heap.size (WB) w' := hr.pre hl
        obtain rfl := hr.f0 g0
        obtain rfl := hr.f1 g1
        intro hK
        rw [if_pos (by rfl)]
        try simp only [Act.put, List.setIfInBounds_toArray, List.set_cons_zero, List.set_cons_succ]
        go_simp
        refine Calls.mono (HNT.out _ hgb) ?_
        rintro e w9 ⟨rfl, hb9⟩
        have hr9 := hr.below hb9 (Nat.le_trans HNW.out hgb.size)
        exact hK.out _ _ (fun j => if j = 2 then true else ℓ j) ⟨(tbV t a), (.int .i64 c), (.agg #[.int .i64 y1, .int .i64 r0, .int .i64 y3]), x26, x27, x28, x29, x30, x31, x32, (by first | (simp only [Act.put, List.setIfInBounds_toArray, List.set_cons_zero, List.set_cons_succ]; done) | (simp only [Act.put, List.setIfInBounds_toArray, List.set_cons_zero, List.set_cons_succ]; rfl)), ⟨(fun g => ⟨(hr9.cs g).1, (hr9.cs g).2.1, rfl, (hr9.cs g).2.2.2.1, (hr9.cs g).2.2.2.2.1, (hr9.cs g).2.2.2.2.2.1, (hr9.cs g).2.2.2.2.2.2.1, (hr9.cs g).2.2.2.2.2.2.2.1, (hr9.cs g).2.2.2.2.2.2.2.2.1, (hr9.cs g).2.2.2.2.2.2.2.2.2.1, trivial⟩), hr9.gb, hr9.pre, hr9.r0, hr9.r1, hr9.f0, hr9.f1, (fun _ => rfl), hr9.f3, hr9.f4, hr9.f5, hr9.f6, hr9.f7, hr9.f8, hr9.f9⟩⟩ (if_pos rfl) (fun j hj => if_neg hj)
      · revert hK
        obtain rfl := Option.some.inj ho
        have g2 : ℓ 2 = true := hdep { on := 2, ground := Ground.data } (by simp) rfl
        clear hdep ho
        obtain rfl := hr.f2 g2
        intro hK
        rw [if_pos (by rfl)]
        try simp only [Act.put, List.setIfInBounds_toArray, List.set_cons_zero, List.set_cons_succ]
        go_simp
        exact hK.out _ _ (fun j => if j = 3 then true else ℓ j) ⟨x23, x24, (.agg #[.int .i64 y1, .int .i64 r0, .int .i64 y3]), (.int .i64 r0), x27, x28, x29, x30, x31, x32, (by first | (simp only [Act.put, List.setIfInBounds_toArray, List.set_cons_zero, List.set_cons_succ]; done) | (simp only [Act.put, List.setIfInBounds_toArray, List.set_cons_zero, List.set_cons_succ]; rfl)), ⟨(fun g => ⟨(hr.cs g).1, (hr.cs g).2.1, (hr.cs g).2.2.1, rfl, (hr.cs g).2.2.2.2.1, (hr.cs g).2.2.2.2.2.1, (hr.cs g).2.2.2.2.2.2.1, (hr.cs g).2.2.2.2.2.2.2.1, (hr.cs g).2.2.2.2.2.2.2.2.1, (hr.cs g).2.2.2.2.2.2.2.2.2.1, trivial⟩), hr.gb, hr.pre, hr.r0, hr.r1, hr.f0, hr.f1, hr.f2, (fun _ => rfl), hr.f4, hr.f5, hr.f6, hr.f7, hr.f8, hr.f9⟩⟩ (if_pos rfl) (fun j hj => if_neg hj)
      · revert hK
        obtain rfl := Option.some.inj ho
        clear hdep ho
        intro hK
        rw [if_pos (by rfl)]
        try simp only [Act.put, List.setIfInBounds_toArray, List.set_cons_zero, List.set_cons_succ]
        go_simp
        exact hK.out _ _ (fun j => if j = 4 then true else ℓ j) ⟨x23, x24, x25, x26, (.int .i64 bd), x28, x29, x30, x31, x32, (by first | (simp only [Act.put, List.setIfInBounds_toArray, List.set_cons_zero, List.set_cons_succ]; done) | (simp only [Act.put, List.setIfInBounds_toArray, List.set_cons_zero, List.set_cons_succ]; rfl)), ⟨(fun g => ⟨(hr.cs g).1, (hr.cs g).2.1, (hr.cs g).2.2.1, (hr.cs g).2.2.2.1, rfl, (hr.cs g).2.2.2.2.2.1, (hr.cs g).2.2.2.2.2.2.1, (hr.cs g).2.2.2.2.2.2.2.1, (hr.cs g).2.2.2.2.2.2.2.2.1, (hr.cs g).2.2.2.2.2.2.2.2.2.1, trivial⟩), hr.gb, hr.pre, hr.r0, hr.r1, hr.f0, hr.f1, hr.f2, hr.f3, (fun _ => rfl), hr.f5, hr.f6, hr.f7, hr.f8, hr.f9⟩⟩ (if_pos rfl) (fun j hj => if_neg hj)
      · revert hK
        obtain rfl := Option.some.inj ho
        clear hdep ho
        intro hK
        rw [if_pos (by rfl)]
        try simp only [Act.put, List.setIfInBounds_toArray, List.set_cons_zero, List.set_cons_succ]
        go_simp
        exact hK.out _ _ (fun j => if j = 5 then true else ℓ j) ⟨x23, x24, x25, x26, x27, (.pointer (some ⟨w.heap.size, 14, none⟩)), x29, x30, x31, x32, (by first | (simp only [Act.put, List.setIfInBounds_toArray, List.set_cons_zero, List.set_cons_succ]; done) | (simp only [Act.put, List.setIfInBounds_toArray, List.set_cons_zero, List.set_cons_succ]; rfl)), ⟨(fun g => ⟨(hr.cs g).1, (hr.cs g).2.1, (hr.cs g).2.2.1, (hr.cs g).2.2.2.1, (hr.cs g).2.2.2.2.1, rfl, (hr.cs g).2.2.2.2.2.2.1, (hr.cs g).2.2.2.2.2.2.2.1, (hr.cs g).2.2.2.2.2.2.2.2.1, (hr.cs g).2.2.2.2.2.2.2.2.2.1, trivial⟩), hr.gb, hr.pre, hr.r0, hr.r1, hr.f0, hr.f1, hr.f2, hr.f3, hr.f4, (fun _ => rfl), hr.f6, hr.f7, hr.f8, hr.f9⟩⟩ (if_pos rfl) (fun j hj => if_neg hj)
      · revert hK
        obtain rfl := Option.some.inj ho
        have g5 : ℓ 5 = true := hdep { on := 5, ground := Ground.data } (by simp) rfl
        clear hdep ho
        have hl : ℓ 10 = false := by
          cases h7 : ℓ 10
          · rfl
          · have := (hr.cs h7).2.2.2.2.2.2.1; rw [this] at hL; cases hL
        have hgb : Below (WB).heap.size (WB) w' := hr.pre hl
        obtain rfl := hr.f5 g5
        intro hK
        rw [if_pos (by rfl)]
        try simp only [Act.put, List.setIfInBounds_toArray, List.set_cons_zero, List.set_cons_succ]
        have cc := (HMJ.out _ hgb)
        go_simp
        exact hK.out _ _ (fun j => if j = 6 then true else ℓ j) ⟨x23, x24, x25, x26, x27, (.pointer (some ⟨w.heap.size, 14, none⟩)), (.int .i64 mj), x30, x31, x32, (by first | (simp only [Act.put, List.setIfInBounds_toArray, List.set_cons_zero, List.set_cons_succ]; done) | (simp only [Act.put, List.setIfInBounds_toArray, List.set_cons_zero, List.set_cons_succ]; rfl)), ⟨(fun g => ⟨(hr.cs g).1, (hr.cs g).2.1, (hr.cs g).2.2.1, (hr.cs g).2.2.2.1, (hr.cs g).2.2.2.2.1, (hr.cs g).2.2.2.2.2.1, rfl, (hr.cs g).2.2.2.2.2.2.2.1, (hr.cs g).2.2.2.2.2.2.2.2.1, (hr.cs g).2.2.2.2.2.2.2.2.2.1, trivial⟩), hr.gb, hr.pre, hr.r0, hr.r1, hr.f0, hr.f1, hr.f2, hr.f3, hr.f4, hr.f5, (fun _ => rfl), hr.f7, hr.f8, hr.f9⟩⟩ (if_pos rfl) (fun j hj => if_neg hj)
      · revert hK
        obtain rfl := Option.some.inj ho
        have g4 : ℓ 4 = true := hdep { on := 4, ground := Ground.data } (by simp) rfl
        have g6 : ℓ 6 = true := hdep { on := 6, ground := Ground.data } (by simp) rfl
        clear hdep ho
        obtain rfl := hr.f4 g4
        obtain rfl := hr.f6 g6
        intro hK
        rw [if_pos (by rfl)]
        try simp only [Act.put, List.setIfInBounds_toArray, List.set_cons_zero, List.set_cons_succ]
        have hwr := HWR.out
        go_simp
        exact hK.out _ _ (fun j => if j = 7 then true else ℓ j) ⟨x23, x24, x25, x26, (.int .i64 bd), x28, (.int .i64 mj), (.int .i64 (bd + mj)), x31, x32, (by first | (simp only [Act.put, List.setIfInBounds_toArray, List.set_cons_zero, List.set_cons_succ]; done) | (simp only [Act.put, List.setIfInBounds_toArray, List.set_cons_zero, List.set_cons_succ]; rfl)), ⟨(fun g => ⟨(hr.cs g).1, (hr.cs g).2.1, (hr.cs g).2.2.1, (hr.cs g).2.2.2.1, (hr.cs g).2.2.2.2.1, (hr.cs g).2.2.2.2.2.1, (hr.cs g).2.2.2.2.2.2.1, rfl, (hr.cs g).2.2.2.2.2.2.2.2.1, (hr.cs g).2.2.2.2.2.2.2.2.2.1, trivial⟩), hr.gb, hr.pre, hr.r0, hr.r1, hr.f0, hr.f1, hr.f2, hr.f3, hr.f4, hr.f5, hr.f6, (fun _ => rfl), hr.f8, hr.f9⟩⟩ (if_pos rfl) (fun j hj => if_neg hj)
      · revert hK
        obtain rfl := Option.some.inj ho
        have g3 : ℓ 3 = true := hdep { on := 3, ground := Ground.data } (by simp) rfl
        have g7 : ℓ 7 = true := hdep { on := 7, ground := Ground.data } (by simp) rfl
        clear hdep ho
        obtain rfl := hr.f3 g3
        obtain rfl := hr.f7 g7
        intro hK
        rw [if_pos (by rfl)]
        try simp only [Act.put, List.setIfInBounds_toArray, List.set_cons_zero, List.set_cons_succ]
        go_simp
        exact hK.out _ _ (fun j => if j = 8 then true else ℓ j) ⟨x23, x24, x25, (.int .i64 r0), x27, x28, x29, (.int .i64 (bd + mj)), (.int .i64 (min r0 (bd + mj))), x32, (by first | (simp only [Act.put, List.setIfInBounds_toArray, List.set_cons_zero, List.set_cons_succ]; done) | (simp only [Act.put, List.setIfInBounds_toArray, List.set_cons_zero, List.set_cons_succ]; rfl)), ⟨(fun g => ⟨(hr.cs g).1, (hr.cs g).2.1, (hr.cs g).2.2.1, (hr.cs g).2.2.2.1, (hr.cs g).2.2.2.2.1, (hr.cs g).2.2.2.2.2.1, (hr.cs g).2.2.2.2.2.2.1, (hr.cs g).2.2.2.2.2.2.2.1, rfl, (hr.cs g).2.2.2.2.2.2.2.2.2.1, trivial⟩), hr.gb, hr.pre, hr.r0, hr.r1, hr.f0, hr.f1, hr.f2, hr.f3, hr.f4, hr.f5, hr.f6, hr.f7, (fun _ => rfl), hr.f9⟩⟩ (if_pos rfl) (fun j hj => if_neg hj)
      · revert hK
        obtain rfl := Option.some.inj ho
        clear hdep ho
        intro hK
        rw [if_pos (by rfl)]
        try simp only [Act.put, List.setIfInBounds_toArray, List.set_cons_zero, List.set_cons_succ]
        go_simp
        exact hK.out _ _ (fun j => if j = 9 then true else ℓ j) ⟨x23, x24, x25, x26, x27, x28, x29, x30, x31, (.pointer (some ⟨N6, 1, none⟩)), (by first | (simp only [Act.put, List.setIfInBounds_toArray, List.set_cons_zero, List.set_cons_succ]; done) | (simp only [Act.put, List.setIfInBounds_toArray, List.set_cons_zero, List.set_cons_succ]; rfl)), ⟨(fun g => ⟨(hr.cs g).1, (hr.cs g).2.1, (hr.cs g).2.2.1, (hr.cs g).2.2.2.1, (hr.cs g).2.2.2.2.1, (hr.cs g).2.2.2.2.2.1, (hr.cs g).2.2.2.2.2.2.1, (hr.cs g).2.2.2.2.2.2.2.1, (hr.cs g).2.2.2.2.2.2.2.2.1, rfl, trivial⟩), hr.gb, hr.pre, hr.r0, hr.r1, hr.f0, hr.f1, hr.f2, hr.f3, hr.f4, hr.f5, hr.f6, hr.f7, hr.f8, (fun _ => rfl)⟩⟩ (if_pos rfl) (fun j hj => if_neg hj)
      · revert hK
        obtain rfl := Option.some.inj ho
        have g9 : ℓ 9 = true := hdep { on := 9, ground := Ground.data } (by simp) rfl
        have g8 : ℓ 8 = true := hdep { on := 8, ground := Ground.data } (by simp) rfl
        have g0 : ℓ 0 = true := hdep { on := 0, ground := Ground.phase } (by simp) rfl
        have g1 : ℓ 1 = true := hdep { on := 1, ground := Ground.phase } (by simp) rfl
        have g2 : ℓ 2 = true := hdep { on := 2, ground := Ground.phase } (by simp) rfl
        have g3 : ℓ 3 = true := hdep { on := 3, ground := Ground.phase } (by simp) rfl
        have g4 : ℓ 4 = true := hdep { on := 4, ground := Ground.phase } (by simp) rfl
        have g5 : ℓ 5 = true := hdep { on := 5, ground := Ground.phase } (by simp) rfl
        have g6 : ℓ 6 = true := hdep { on := 6, ground := Ground.phase } (by simp) rfl
        have g7 : ℓ 7 = true := hdep { on := 7, ground := Ground.phase } (by simp) rfl
        clear hdep ho
        obtain rfl := hr.f9 g9
        obtain rfl := hr.f8 g8
        intro hK
        rw [if_pos (by rfl)]
        try simp only [Act.put, List.setIfInBounds_toArray, List.set_cons_zero, List.set_cons_succ]
        have hz := hr.r0 hL
        have cc := row_cell hz 1 _ rfl
        have cf := row_free hz 1
        go_simp
        exact hK.out _ _ (fun j => if j = 10 then true else ℓ j) ⟨x23, x24, x25, x26, x27, x28, x29, x30, (.int .i64 (min r0 (bd + mj))), (.pointer (some ⟨N6, 1, none⟩)), (by first | (simp only [Act.put, List.setIfInBounds_toArray, List.set_cons_zero, List.set_cons_succ]; done) | (simp only [Act.put, List.setIfInBounds_toArray, List.set_cons_zero, List.set_cons_succ]; rfl)), ⟨(fun _ => ⟨g0, g1, g2, g3, g4, g5, g6, g7, g8, g9, trivial⟩), hr.gb.setCell (p := ⟨N6, 1, none⟩) (Nat.le_refl _) _, (fun g => by cases g), (fun g => by cases g), (fun _ => r3_set hz 1 _ rfl), hr.f0, hr.f1, hr.f2, hr.f3, hr.f4, hr.f5, hr.f6, hr.f7, hr.f8, hr.f9⟩⟩ (if_pos rfl) (fun j hj => if_neg hj)
    · rintro a' w' ℓ ℓ' hℓ hI
      rw [← show ℓ = ℓ' from funext hℓ]
      exact hI
  · go_wp2
    revert HB HX H4 HRZ HN6 HNW
    generalize (w2.alloc (.cells #[.int .i64 c, .int .i64 0, .int .i64 (-1), .int .i64 1] 64)) = WB
    generalize w2.heap.size = N6
    intro HB HX H4 HRZ HN6 HNW
    clear c3
    have HXB : Hid (∀ X, Below WB.heap.size WB X → TBx X w.heap.size t a) := fun X hX => HX.out.below hX
    obtain ⟨i, hi, hsi, _⟩ := HPS.out (by decide)
    have HRT0 : Hid _ := HRS.out i hi hsi
    have HWE : Hid (wo = (t.ss.getD i sl0).1) := by show _ = _; rw [← HWO.out]; unfold whoV; rw [hsi, if_neg (by omega)]; rfl
    obtain ⟨b1, o1, hsa, hbl1, p1⟩ := (HSL.out _ HB.out).at i (by omega)
    have HSC : Hid (∀ X, Below WB.heap.size WB X → X.cell? ⟨w.heap.size, 18, none⟩ = some (.slice (some ⟨b1, o1, none⟩) a.sn a.sc)) := fun X hX => by rw [← hsa]; exact (HXB.out X hX).cell 18 rfl
    have HCE : Hid (∀ X, Below WB.heap.size WB X → X.cell? ⟨b1, o1 + i * 3, none⟩ = some (.int .i64 (t.ss.getD i sl0).1) ∧ X.cell? ⟨b1, o1 + i * 3 + 1, none⟩ = some (.int .i64 (t.ss.getD i sl0).2.1) ∧ X.cell? ⟨b1, o1 + i * 3 + 2, none⟩ = some (.int .i64 (t.ss.getD i sl0).2.2)) := fun X hX => by
      have := p1.of (w' := X) (fun j => hX.cell (p := ⟨b1, j, none⟩) hbl1)
      simp only [slX] at this
      exact sl_cells this
    have HSA : Hid (∀ X, Below WB.heap.size WB X → Calls Tryz.prog 82 #[tbV t a, .int .i64 c] X fun e w' => e = .returned (.int .i64 (i : Int)) ∧ Below X.heap.size X w') := fun X hX => by
      rw [← hsi]
      exact HSX.out X (HB.out.trans (hX.mono HN6.out.1))
    have hx := HTM.out.st i hi
    have hx2 := HTM.out.en i hi
    have hx3 := HTM.out.ln i hi
    have hp1 := HTM.out.pad1
    have hp2 := HTM.out.pad2
    have hg1 := HTM.out.grd1
    have hg2 := HTM.out.grd2
    have HRP : Hid (∀ (x1 x2 x3 : Int), (0 ≤ x2 ∧ 0 ≤ x3 ∧ x2 + x3 ≤ 5000) → ∀ X, Calls Tryz.prog 83 #[tbV t a, .agg #[.int .i64 x1, .int .i64 x2, .int .i64 x3]] X fun e w' => e = .returned (.tuple #[.int .i64 (x2 + t.pad), .int .i64 (x2 + x3 - t.grd)]) ∧ Below X.heap.size X w') := fun x1 x2 x3 h X => run_of t a x1 x2 x3 X ⟨hp1, hp2⟩ ⟨hg1, hg2⟩ h
    have HIN : Hid ((i : Int) < (a.sn : Int) ∧ i < a.sn) := ⟨by omega, by omega⟩
    replace hn : a.sn ≤ 1048576 := hn
    clear HNX HSX HSL HRF HRS HPS HPN hsi p1 hbl1 HX HWO hsa hi hL
    generalize t.ss.getD i sl0 = y at *
    obtain ⟨y1, y2, y3⟩ := y
    simp only [rsV] at HRT0 HWE HCE hx hx2 hx3 ⊢
    have HRO := (HRP.out y1 y2 y3 ⟨by omega, by omega, by omega⟩)
    replace HRO : Hid _ := HRO
    have HSE : Hid (∀ X, Calls Tryz.prog 84 #[.agg #[.int .i64 y1, .int .i64 y2, .int .i64 y3]] X fun e w' => e = .returned (.int .i64 (y2 + y3)) ∧ Below X.heap.size X w') := fun X => slot_end y1 y2 y3 X (by rw [IntKind.wrap_i64]; omega)
    have HWR : Hid (IntKind.i64.wrap (bd + (y2 + t.pad)) = bd + (y2 + t.pad) ∧ IntKind.i64.wrap (bd + (y2 + y3 - t.grd)) = bd + (y2 + y3 - t.grd) ∧ IntKind.i64.wrap (bd + (y2 + y3)) = bd + (y2 + y3)) := by
      refine ⟨?_, ?_, ?_⟩ <;> (rw [IntKind.wrap_i64]; omega)
    have HRT : Hid (RT t c (bd + (y2 + t.pad))) := by have := HRT0.out; show RT t c (bd + (y2 + t.pad)); simpa using this
    clear HRT0 HRP
    generalize t.pad = pad at *
    generalize t.grd = grd at *
    obtain ⟨n, hnn⟩ : ∃ n, a.sn = n := ⟨_, rfl⟩
    obtain ⟨nc, hnc⟩ : ∃ nc, a.sc = nc := ⟨_, rfl⟩
    rw [hnn] at HSC HIN hn
    rw [hnc] at HSC
    clear hnn hnc
    refine wp_region_inv (by kernel_rfl) (by kernel_rfl) (fun A ℓ a' w' => ∃ (x34 x35 x36 x37 x38 x39 x40 x7 : Value), a' = ((((((((A.put (some 34) x34).put (some 35) x35).put (some 36) x36).put (some 37) x37).put (some 38) x38).put (some 39) x39).put (some 40) x40).put (some 7) x7) ∧ R6 (WB) (#[.int .i64 0, .int .i64 0, .int .i64 0]) (#[.int .i64 y1, .int .i64 y2, .int .i64 y3]) (.pointer (some ⟨w.heap.size, 18, none⟩)) (.slice (some ⟨b1, o1, none⟩) n nc) (tbV t a) (.int .i64 c) (.int .i64 (i : Int)) (.pointer (some ⟨b1, o1 + i * 3, none⟩)) (.agg #[.int .i64 y1, .int .i64 y2, .int .i64 y3]) w' (ℓ 0) (ℓ 1) (ℓ 2) (ℓ 3) (ℓ 4) (ℓ 5) (ℓ 6) (ℓ 7) (ℓ 8) x34 x35 x36 x37 x38 x39 x40 x7) ?_ ?_ ?_ ?_
    · exact ⟨undef, undef, undef, undef, undef, undef, undef, undef, (by simp only [Act.put, List.setIfInBounds_toArray, List.set_cons_zero, List.set_cons_succ]), ⟨(fun g => by cases g), (Below.refl _ _).drew, (fun g => by cases g), (fun g => by cases g), (fun g => by cases g), (fun g => by cases g), (fun g => by cases g), (fun g => by cases g), (fun g => by cases g), (fun g => by cases g)⟩⟩
    · intro ℓ a' w' hI hall
      obtain ⟨x34, x35, x36, x37, x38, x39, x40, x7, rfl, hr⟩ := hI
      have hall' : ∀ i, i < 9 → ℓ i = true := hall
      obtain rfl := hr.f0 (hall' 0 (by decide))
      obtain rfl := hr.f1 (hall' 1 (by decide))
      obtain rfl := hr.f2 (hall' 2 (by decide))
      obtain rfl := hr.f3 (hall' 3 (by decide))
      obtain rfl := hr.f4 (hall' 4 (by decide))
      obtain rfl := hr.f5 (hall' 5 (by decide))
      obtain rfl := hr.f6 (hall' 6 (by decide))
      obtain ⟨N, rfl, hN, _, hrow⟩ := hr.f7 (hall' 7 (by decide))
      have hrow := hrow (hall' 8 (by decide))
      have hgb := hr.gb
      clear hall hall' hr
      simp only [Act.put, List.setIfInBounds_toArray, List.set_cons_zero, List.set_cons_succ]
      have HBA : Hid (Below WB.heap.size WB w') := hgb
      have HR7 : Hid (w'.heap[N]? = some (.cells #[.int .i64 y1, .int .i64 y2, .int .i64 y3] 98 (0, 0))) := hrow
      have HN7 : Hid (WB.heap.size ≤ N ∧ N < w'.heap.size) := ⟨hN, row_lt hrow⟩
      have HX7 : Hid (TBx w' w.heap.size t a) := HXB.out _ hgb
      clear hrow hgb hN
      go_wp2_with (first | (refine wpList_load_row rfl 41 (.tmp 2) rfl w.heap.size rfl 41 (tbA t a) (0, 0) _ HX7.out Tryz.underlying41 rfl (by kernel_rfl) ?_) | (refine wpList_load_row rfl 98 (.tmp 7) rfl N rfl 98 (#[.int .i64 y1, .int .i64 y2, .int .i64 y3]) (0, 0) _ HR7.out Tryz.underlying98 rfl (by kernel_rfl) ?_) | fail)
      refine Calls.mono (HRO.out _) ?_
      rintro e w3 ⟨rfl, hb3⟩
      have HBC : Hid (Below WB.heap.size WB w3) := HBA.out.trans (hb3.mono HBA.out.size)
      have HR8 : Hid (w3.heap[N]? = some (.cells #[.int .i64 y1, .int .i64 y2, .int .i64 y3] 98 (0, 0))) := row_below HR7.out hb3
      have HN8 : Hid (WB.heap.size ≤ N ∧ N < w3.heap.size) := ⟨HN7.out.1, row_lt HR8.out⟩
      clear hb3 HBA HR7 HN7 HX7
      have HR9 : Hid (w3.heap[N6]? = some (.cells #[.int .i64 c, .int .i64 0, .int .i64 (-1), .int .i64 1] 64 (0, 0))) := row_below HRZ.out HBC.out
      have H48 : Hid (w3.heap[w.heap.size + 1]? = some (.cells #[.int .i64 0, .int .i64 0, .int .i64 0, .int .i64 0] 64 (0, 0))) := row_below H4.out HBC.out
      have HB3 : Hid (Below w.heap.size w w3) := HB.out.trans (HBC.out.mono HN6.out.1)
      have HNE : Hid (N ≠ N6) := by have := HN8.out.1; have := row_lt HRZ.out; show _ ≠ _; omega
      have k0 := row_cell HR8.out 0 _ rfl
      have cc := row_cell HR9.out 2 _ rfl
      have cf := row_free HR9.out 2
      have c1 := row_cell HR9.out 1 _ rfl
      have cf1 := row_free HR9.out 1
      have c3 := row_cell HR9.out 3 _ rfl
      have HR10 : Hid (((w3.setCell ⟨N6, 2, none⟩ (.int .i64 y1)).setCell ⟨N6, 1, none⟩ (.int .i64 (bd + (y2 + pad)))).heap[N6]? = some (.cells #[.int .i64 c, .int .i64 (bd + (y2 + pad)), .int .i64 y1, .int .i64 1] 64 (0, 0))) := r3_set (r3_set HR9.out 2 _ rfl) 1 _ rfl
      have H410 : Hid (((w3.setCell ⟨N6, 2, none⟩ (.int .i64 y1)).setCell ⟨N6, 1, none⟩ (.int .i64 (bd + (y2 + pad)))).heap[w.heap.size + 1]? = some (.cells #[.int .i64 0, .int .i64 0, .int .i64 0, .int .i64 0] 64 (0, 0))) := row_other (row_other H48.out (by have := HN6.out.2; omega)) (by have := HN6.out.2; omega)
      have HB10 : Hid (Below w.heap.size w ((w3.setCell ⟨N6, 2, none⟩ (.int .i64 y1)).setCell ⟨N6, 1, none⟩ (.int .i64 (bd + (y2 + pad))))) := (HB3.out.setCell (p := ⟨N6, 2, none⟩) (by show w.heap.size ≤ N6; have := HN6.out.2; omega) _).setCell (p := ⟨N6, 1, none⟩) (by show w.heap.size ≤ N6; have := HN6.out.2; omega) _
      have hwr := HWR.out
      go_wp2_with (first | (refine wpList_load_row rfl 64 (.tmp 6) rfl N6 rfl 64 (#[.int .i64 c, .int .i64 (bd + (y2 + pad)), .int .i64 y1, .int .i64 1]) (0, 0) _ HR10.out Tryz.underlying64 rfl (by kernel_rfl) ?_) | (refine wpList_store_row rfl 64 (.tmp 4) (.tmp 69) rfl (w.heap.size + 1) (#[.int .i64 c, .int .i64 (bd + (y2 + pad)), .int .i64 y1, .int .i64 1]) rfl rfl 64 (#[.int .i64 0, .int .i64 0, .int .i64 0, .int .i64 0]) H410.out (by kernel_rfl) rfl (by simp [Value.oneCell']) ?_) | fail)
      exact bodyPost_ret (v := .agg #[.int .i64 c, .int .i64 (bd + (y2 + pad)), .int .i64 y1, .int .i64 1]) (res_rest (setRow_heap _ _ _ _ _ _ H410.out) rfl rfl) rfl ⟨_, by rw [HWE.out], HRT.out, below_setRow HB10.out (Nat.le_succ _) _⟩
    · intro ℓ a' w' i o hI ho hi hL hdep K hK
      obtain ⟨x34, x35, x36, x37, x38, x39, x40, x7, rfl, hr⟩ := hI
      have hi7 : i < 9 := hi
      have hcs : i = 0 ∨ i = 1 ∨ i = 2 ∨ i = 3 ∨ i = 4 ∨ i = 5 ∨ i = 6 ∨ i = 7 ∨ i = 8 := by omega
      clear hi hi7
      rcases hcs with rfl | rfl | rfl | rfl | rfl | rfl | rfl | rfl | rfl
      · revert hK
        obtain rfl := Option.some.inj ho
        clear hdep ho
        have hgb := hr.gb
        intro hK
        rw [if_pos (by rfl)]
        try simp only [Act.put, List.setIfInBounds_toArray, List.set_cons_zero, List.set_cons_succ]
        go_simp
        exact hK.out _ _ (fun j => if j = 0 then true else ℓ j) ⟨(.pointer (some ⟨w.heap.size, 18, none⟩)), x35, x36, x37, x38, x39, x40, x7, (by first | (simp only [Act.put, List.setIfInBounds_toArray, List.set_cons_zero, List.set_cons_succ]; done) | (simp only [Act.put, List.setIfInBounds_toArray, List.set_cons_zero, List.set_cons_succ]; rfl)), ⟨(fun g => ⟨rfl, (hr.cs g).2.1, (hr.cs g).2.2.1, (hr.cs g).2.2.2.1, (hr.cs g).2.2.2.2.1, (hr.cs g).2.2.2.2.2.1, (hr.cs g).2.2.2.2.2.2.1, (hr.cs g).2.2.2.2.2.2.2.1, trivial⟩), hr.gb, (fun _ => rfl), hr.f1, hr.f2, hr.f3, hr.f4, hr.f5, hr.f6, hr.f7⟩⟩ (if_pos rfl) (fun j hj => if_neg hj)
      · revert hK
        obtain rfl := Option.some.inj ho
        have g0 : ℓ 0 = true := hdep { on := 0, ground := Ground.data } (by simp) rfl
        clear hdep ho
        have hl : ℓ 8 = false := by
          cases h7 : ℓ 8
          · rfl
          · have := (hr.cs h7).2.1; rw [this] at hL; cases hL
        have hgb := hr.gb
        obtain rfl := hr.f0 g0
        intro hK
        rw [if_pos (by rfl)]
        try simp only [Act.put, List.setIfInBounds_toArray, List.set_cons_zero, List.set_cons_succ]
        have cc := (HSC.out _ hgb)
        go_simp
        exact hK.out _ _ (fun j => if j = 1 then true else ℓ j) ⟨(.pointer (some ⟨w.heap.size, 18, none⟩)), (.slice (some ⟨b1, o1, none⟩) n nc), x36, x37, x38, x39, x40, x7, (by first | (simp only [Act.put, List.setIfInBounds_toArray, List.set_cons_zero, List.set_cons_succ]; done) | (simp only [Act.put, List.setIfInBounds_toArray, List.set_cons_zero, List.set_cons_succ]; rfl)), ⟨(fun g => ⟨(hr.cs g).1, rfl, (hr.cs g).2.2.1, (hr.cs g).2.2.2.1, (hr.cs g).2.2.2.2.1, (hr.cs g).2.2.2.2.2.1, (hr.cs g).2.2.2.2.2.2.1, (hr.cs g).2.2.2.2.2.2.2.1, trivial⟩), hr.gb, hr.f0, (fun _ => rfl), hr.f2, hr.f3, hr.f4, hr.f5, hr.f6, hr.f7⟩⟩ (if_pos rfl) (fun j hj => if_neg hj)
      · replace ho : some ({ dst := some 36, op := .load 41 (.tmp 2), type := 41, pos := "l24_audit.go:28", after := #[], guard := none } : Oper) = some o := ho
        revert hK
        obtain rfl := Option.some.inj ho
        clear hdep ho
        have hl : ℓ 8 = false := by
          cases h7 : ℓ 8
          · rfl
          · have := (hr.cs h7).2.2.1; rw [this] at hL; cases hL
        have hgb := hr.gb
        intro hK
        rw [if_pos (by rfl)]
        try simp only [Act.put, List.setIfInBounds_toArray, List.set_cons_zero, List.set_cons_succ]
        refine wp_load_row (P := Tryz.prog) 41 (.tmp 2) rfl w.heap.size rfl 41 (tbA t a) (0, 0) _ ((HXB.out _ hgb)) Tryz.underlying41 rfl (by kernel_rfl) ?_
        exact hK.out _ _ (fun j => if j = 2 then true else ℓ j) ⟨x34, x35, (tbV t a), x37, x38, x39, x40, x7, (by first | (simp only [Act.put, List.setIfInBounds_toArray, List.set_cons_zero, List.set_cons_succ]; done) | (simp only [Act.put, List.setIfInBounds_toArray, List.set_cons_zero, List.set_cons_succ]; rfl)), ⟨(fun g => ⟨(hr.cs g).1, (hr.cs g).2.1, rfl, (hr.cs g).2.2.2.1, (hr.cs g).2.2.2.2.1, (hr.cs g).2.2.2.2.2.1, (hr.cs g).2.2.2.2.2.2.1, (hr.cs g).2.2.2.2.2.2.2.1, trivial⟩), hr.gb, hr.f0, hr.f1, (fun _ => rfl), hr.f3, hr.f4, hr.f5, hr.f6, hr.f7⟩⟩ (if_pos rfl) (fun j hj => if_neg hj)
      · revert hK
        obtain rfl := Option.some.inj ho
        clear hdep ho
        have hgb := hr.gb
        intro hK
        rw [if_pos (by rfl)]
        try simp only [Act.put, List.setIfInBounds_toArray, List.set_cons_zero, List.set_cons_succ]
        go_simp
        exact hK.out _ _ (fun j => if j = 3 then true else ℓ j) ⟨x34, x35, x36, (.int .i64 c), x38, x39, x40, x7, (by first | (simp only [Act.put, List.setIfInBounds_toArray, List.set_cons_zero, List.set_cons_succ]; done) | (simp only [Act.put, List.setIfInBounds_toArray, List.set_cons_zero, List.set_cons_succ]; rfl)), ⟨(fun g => ⟨(hr.cs g).1, (hr.cs g).2.1, (hr.cs g).2.2.1, rfl, (hr.cs g).2.2.2.2.1, (hr.cs g).2.2.2.2.2.1, (hr.cs g).2.2.2.2.2.2.1, (hr.cs g).2.2.2.2.2.2.2.1, trivial⟩), hr.gb, hr.f0, hr.f1, hr.f2, (fun _ => rfl), hr.f4, hr.f5, hr.f6, hr.f7⟩⟩ (if_pos rfl) (fun j hj => if_neg hj)
      · revert hK
        obtain rfl := Option.some.inj ho
        have g2 : ℓ 2 = true := hdep { on := 2, ground := Ground.data } (by simp) rfl
        have g3 : ℓ 3 = true := hdep { on := 3, ground := Ground.data } (by simp) rfl
        clear hdep ho
        have hl : ℓ 8 = false := by
          cases h7 : ℓ 8
          · rfl
          · have := (hr.cs h7).2.2.2.2.1; rw [this] at hL; cases hL
        have hgb := hr.gb
        obtain rfl := hr.f2 g2
        obtain rfl := hr.f3 g3
        intro hK
        rw [if_pos (by rfl)]
        try simp only [Act.put, List.setIfInBounds_toArray, List.set_cons_zero, List.set_cons_succ]
        go_simp
        refine Calls.mono (HSA.out _ hgb) ?_
        rintro e w9 ⟨rfl, hb9⟩
        have hr9 := hr.below hb9
        exact hK.out _ _ (fun j => if j = 4 then true else ℓ j) ⟨x34, x35, (tbV t a), (.int .i64 c), (.int .i64 (i : Int)), x39, x40, x7, (by first | (simp only [Act.put, List.setIfInBounds_toArray, List.set_cons_zero, List.set_cons_succ]; done) | (simp only [Act.put, List.setIfInBounds_toArray, List.set_cons_zero, List.set_cons_succ]; rfl)), ⟨(fun g => ⟨(hr9.cs g).1, (hr9.cs g).2.1, (hr9.cs g).2.2.1, (hr9.cs g).2.2.2.1, rfl, (hr9.cs g).2.2.2.2.2.1, (hr9.cs g).2.2.2.2.2.2.1, (hr9.cs g).2.2.2.2.2.2.2.1, trivial⟩), hr9.gb, hr9.f0, hr9.f1, hr9.f2, hr9.f3, (fun _ => rfl), hr9.f5, hr9.f6, hr9.f7⟩⟩ (if_pos rfl) (fun j hj => if_neg hj)
      · revert hK
        obtain rfl := Option.some.inj ho
        have g1 : ℓ 1 = true := hdep { on := 1, ground := Ground.data } (by simp) rfl
        have g4 : ℓ 4 = true := hdep { on := 4, ground := Ground.data } (by simp) rfl
        clear hdep ho
        have hgb := hr.gb
        obtain rfl := hr.f1 g1
        obtain rfl := hr.f4 g4
        intro hK
        rw [if_pos (by rfl)]
        try simp only [Act.put, List.setIfInBounds_toArray, List.set_cons_zero, List.set_cons_succ]
        have hin := HIN.out
        go_simp
        exact hK.out _ _ (fun j => if j = 5 then true else ℓ j) ⟨x34, (.slice (some ⟨b1, o1, none⟩) n nc), x36, x37, (.int .i64 (i : Int)), (.pointer (some ⟨b1, o1 + i * 3, none⟩)), x40, x7, (by first | (simp only [Act.put, List.setIfInBounds_toArray, List.set_cons_zero, List.set_cons_succ]; done) | (simp only [Act.put, List.setIfInBounds_toArray, List.set_cons_zero, List.set_cons_succ]; rfl)), ⟨(fun g => ⟨(hr.cs g).1, (hr.cs g).2.1, (hr.cs g).2.2.1, (hr.cs g).2.2.2.1, (hr.cs g).2.2.2.2.1, rfl, (hr.cs g).2.2.2.2.2.2.1, (hr.cs g).2.2.2.2.2.2.2.1, trivial⟩), hr.gb, hr.f0, hr.f1, hr.f2, hr.f3, hr.f4, (fun _ => rfl), hr.f6, hr.f7⟩⟩ (if_pos rfl) (fun j hj => if_neg hj)
      · revert hK
        obtain rfl := Option.some.inj ho
        have g5 : ℓ 5 = true := hdep { on := 5, ground := Ground.data } (by simp) rfl
        clear hdep ho
        have hgb := hr.gb
        obtain rfl := hr.f5 g5
        intro hK
        rw [if_pos (by rfl)]
        try simp only [Act.put, List.setIfInBounds_toArray, List.set_cons_zero, List.set_cons_succ]
        have hgb := hr.gb
        obtain ⟨cc0, cc1, cc2⟩ := HCE.out _ hgb
        go_simp
        exact hK.out _ _ (fun j => if j = 6 then true else ℓ j) ⟨x34, x35, x36, x37, x38, (.pointer (some ⟨b1, o1 + i * 3, none⟩)), (.agg #[.int .i64 y1, .int .i64 y2, .int .i64 y3]), x7, (by first | (simp only [Act.put, List.setIfInBounds_toArray, List.set_cons_zero, List.set_cons_succ]; done) | (simp only [Act.put, List.setIfInBounds_toArray, List.set_cons_zero, List.set_cons_succ]; rfl)), ⟨(fun g => ⟨(hr.cs g).1, (hr.cs g).2.1, (hr.cs g).2.2.1, (hr.cs g).2.2.2.1, (hr.cs g).2.2.2.2.1, (hr.cs g).2.2.2.2.2.1, rfl, (hr.cs g).2.2.2.2.2.2.2.1, trivial⟩), hr.gb, hr.f0, hr.f1, hr.f2, hr.f3, hr.f4, hr.f5, (fun _ => rfl), hr.f7⟩⟩ (if_pos rfl) (fun j hj => if_neg hj)
      · revert hK
        obtain rfl := Option.some.inj ho
        clear hdep ho
        have hl : ℓ 8 = false := by
          cases h7 : ℓ 8
          · rfl
          · have := (hr.cs h7).2.2.2.2.2.2.2.1; rw [this] at hL; cases hL
        have hgb := hr.gb
        intro hK
        rw [if_pos (by rfl)]
        try simp only [Act.put, List.setIfInBounds_toArray, List.set_cons_zero, List.set_cons_succ]
        have hr9 := hr.below (w9 := w'.alloc (.cells (#[.int .i64 0, .int .i64 0, .int .i64 0]) 98)) ((Below.refl _ _).alloc (Nat.le_refl _) _)
        go_simp
        exact hK.out _ _ (fun j => if j = 7 then true else ℓ j) ⟨x34, x35, x36, x37, x38, x39, x40, (.pointer (some ⟨w'.heap.size, 0, none⟩)), (by first | (simp only [Act.put, List.setIfInBounds_toArray, List.set_cons_zero, List.set_cons_succ]; done) | (simp only [Act.put, List.setIfInBounds_toArray, List.set_cons_zero, List.set_cons_succ]; rfl)), ⟨(fun g => ⟨(hr9.cs g).1, (hr9.cs g).2.1, (hr9.cs g).2.2.1, (hr9.cs g).2.2.2.1, (hr9.cs g).2.2.2.2.1, (hr9.cs g).2.2.2.2.2.1, (hr9.cs g).2.2.2.2.2.2.1, rfl, trivial⟩), hr9.gb, hr9.f0, hr9.f1, hr9.f2, hr9.f3, hr9.f4, hr9.f5, hr9.f6, (fun _ => ⟨w'.heap.size, rfl, hgb.size, (fun _ => new_row w' _ _ _ rfl), (fun g => by have g' : ℓ 8 = true := g; rw [hl] at g'; cases g')⟩)⟩⟩ (if_pos rfl) (fun j hj => if_neg hj)
      · replace ho : some ({ dst := none, op := .store 98 (.tmp 7) (.tmp 40), type := 0, pos := "l24_audit.go:28", after := #[{ on := 7, ground := Ground.data }, { on := 6, ground := Ground.data }, { on := 4, ground := Ground.chain }, { on := 0, ground := Ground.phase }, { on := 1, ground := Ground.phase }, { on := 2, ground := Ground.phase }, { on := 3, ground := Ground.phase }, { on := 4, ground := Ground.phase }, { on := 5, ground := Ground.phase }, { on := 6, ground := Ground.phase }, { on := 7, ground := Ground.phase }], guard := none } : Oper) = some o := ho
        revert hK
        obtain rfl := Option.some.inj ho
        have g7 : ℓ 7 = true := hdep { on := 7, ground := Ground.data } (by simp) rfl
        have g6 : ℓ 6 = true := hdep { on := 6, ground := Ground.data } (by simp) rfl
        have g0 : ℓ 0 = true := hdep { on := 0, ground := Ground.phase } (by simp) rfl
        have g1 : ℓ 1 = true := hdep { on := 1, ground := Ground.phase } (by simp) rfl
        have g2 : ℓ 2 = true := hdep { on := 2, ground := Ground.phase } (by simp) rfl
        have g3 : ℓ 3 = true := hdep { on := 3, ground := Ground.phase } (by simp) rfl
        have g4 : ℓ 4 = true := hdep { on := 4, ground := Ground.phase } (by simp) rfl
        have g5 : ℓ 5 = true := hdep { on := 5, ground := Ground.phase } (by simp) rfl
        clear hdep ho
        have hgb := hr.gb
        obtain ⟨N, rfl, hN, hrow, _⟩ := hr.f7 g7
        obtain rfl := hr.f6 g6
        intro hK
        rw [if_pos (by rfl)]
        try simp only [Act.put, List.setIfInBounds_toArray, List.set_cons_zero, List.set_cons_succ]
        refine wp_store_row (P := Tryz.prog) 98 (.tmp 7) (.tmp 40) rfl N (#[.int .i64 y1, .int .i64 y2, .int .i64 y3]) rfl rfl 98 (#[.int .i64 0, .int .i64 0, .int .i64 0]) (hrow hL) (by kernel_rfl) rfl (by simp [Value.oneCell']) ?_
        exact hK.out _ _ (fun j => if j = 8 then true else ℓ j) ⟨x34, x35, x36, x37, x38, x39, (.agg #[.int .i64 y1, .int .i64 y2, .int .i64 y3]), (.pointer (some ⟨N, 0, none⟩)), (by first | (simp only [Act.put, List.setIfInBounds_toArray, List.set_cons_zero, List.set_cons_succ]; done) | (simp only [Act.put, List.setIfInBounds_toArray, List.set_cons_zero, List.set_cons_succ]; rfl)), ⟨(fun _ => ⟨g0, g1, g2, g3, g4, g5, g6, g7, trivial⟩), below_setRow hr.gb hN _, hr.f0, hr.f1, hr.f2, hr.f3, hr.f4, hr.f5, hr.f6, (fun _ => ⟨N, rfl, hN, (fun g => by cases g), fun _ => setRow_heap _ _ _ _ _ _ (hrow hL)⟩)⟩⟩ (if_pos rfl) (fun j hj => if_neg hj)
    · rintro a' w' ℓ ℓ' hℓ hI
      rw [← show ℓ = ℓ' from funext hℓ]
      exact hI
  · go_wp2
    revert HB HX H4 HRZ HN6 HNW
    generalize (w2.alloc (.cells #[.int .i64 c, .int .i64 0, .int .i64 (-1), .int .i64 2] 64)) = WB
    generalize w2.heap.size = N6
    intro HB HX H4 HRZ HN6 HNW
    clear c3
    have HXB : Hid (∀ X, Below WB.heap.size WB X → TBx X w.heap.size t a) := fun X hX => HX.out.below hX
    obtain ⟨i, hi, hsi, _⟩ := HPS.out (by decide)
    have HRT0 : Hid _ := HRS.out i hi hsi
    have HWE : Hid (wo = (t.ss.getD i sl0).1) := by show _ = _; rw [← HWO.out]; unfold whoV; rw [hsi, if_neg (by omega)]; rfl
    obtain ⟨b1, o1, hsa, hbl1, p1⟩ := (HSL.out _ HB.out).at i (by omega)
    have HSC : Hid (∀ X, Below WB.heap.size WB X → X.cell? ⟨w.heap.size, 18, none⟩ = some (.slice (some ⟨b1, o1, none⟩) a.sn a.sc)) := fun X hX => by rw [← hsa]; exact (HXB.out X hX).cell 18 rfl
    have HCE : Hid (∀ X, Below WB.heap.size WB X → X.cell? ⟨b1, o1 + i * 3, none⟩ = some (.int .i64 (t.ss.getD i sl0).1) ∧ X.cell? ⟨b1, o1 + i * 3 + 1, none⟩ = some (.int .i64 (t.ss.getD i sl0).2.1) ∧ X.cell? ⟨b1, o1 + i * 3 + 2, none⟩ = some (.int .i64 (t.ss.getD i sl0).2.2)) := fun X hX => by
      have := p1.of (w' := X) (fun j => hX.cell (p := ⟨b1, j, none⟩) hbl1)
      simp only [slX] at this
      exact sl_cells this
    have HSA : Hid (∀ X, Below WB.heap.size WB X → Calls Tryz.prog 82 #[tbV t a, .int .i64 c] X fun e w' => e = .returned (.int .i64 (i : Int)) ∧ Below X.heap.size X w') := fun X hX => by
      rw [← hsi]
      exact HSX.out X (HB.out.trans (hX.mono HN6.out.1))
    have hx := HTM.out.st i hi
    have hx2 := HTM.out.en i hi
    have hx3 := HTM.out.ln i hi
    have hp1 := HTM.out.pad1
    have hp2 := HTM.out.pad2
    have hg1 := HTM.out.grd1
    have hg2 := HTM.out.grd2
    have HRP : Hid (∀ (x1 x2 x3 : Int), (0 ≤ x2 ∧ 0 ≤ x3 ∧ x2 + x3 ≤ 5000) → ∀ X, Calls Tryz.prog 83 #[tbV t a, .agg #[.int .i64 x1, .int .i64 x2, .int .i64 x3]] X fun e w' => e = .returned (.tuple #[.int .i64 (x2 + t.pad), .int .i64 (x2 + x3 - t.grd)]) ∧ Below X.heap.size X w') := fun x1 x2 x3 h X => run_of t a x1 x2 x3 X ⟨hp1, hp2⟩ ⟨hg1, hg2⟩ h
    have HIN : Hid ((i : Int) < (a.sn : Int) ∧ i < a.sn) := ⟨by omega, by omega⟩
    replace hn : a.sn ≤ 1048576 := hn
    clear HNX HSX HSL HRF HRS HPS HPN hsi p1 hbl1 HX HWO hsa hi hL
    generalize t.ss.getD i sl0 = y at *
    obtain ⟨y1, y2, y3⟩ := y
    simp only [rsV] at HRT0 HWE HCE hx hx2 hx3 ⊢
    have HRO := (HRP.out y1 y2 y3 ⟨by omega, by omega, by omega⟩)
    replace HRO : Hid _ := HRO
    have HSE : Hid (∀ X, Calls Tryz.prog 84 #[.agg #[.int .i64 y1, .int .i64 y2, .int .i64 y3]] X fun e w' => e = .returned (.int .i64 (y2 + y3)) ∧ Below X.heap.size X w') := fun X => slot_end y1 y2 y3 X (by rw [IntKind.wrap_i64]; omega)
    have HWR : Hid (IntKind.i64.wrap (bd + (y2 + t.pad)) = bd + (y2 + t.pad) ∧ IntKind.i64.wrap (bd + (y2 + y3 - t.grd)) = bd + (y2 + y3 - t.grd) ∧ IntKind.i64.wrap (bd + (y2 + y3)) = bd + (y2 + y3)) := by
      refine ⟨?_, ?_, ?_⟩ <;> (rw [IntKind.wrap_i64]; omega)
    have HRT : Hid (RT t c (bd + (y2 + y3 - t.grd))) := by have := HRT0.out; show RT t c (bd + (y2 + y3 - t.grd)); simpa using this
    clear HRT0 HRP
    generalize t.pad = pad at *
    generalize t.grd = grd at *
    obtain ⟨n, hnn⟩ : ∃ n, a.sn = n := ⟨_, rfl⟩
    obtain ⟨nc, hnc⟩ : ∃ nc, a.sc = nc := ⟨_, rfl⟩
    rw [hnn] at HSC HIN hn
    rw [hnc] at HSC
    clear hnn hnc
    refine wp_region_inv (by kernel_rfl) (by kernel_rfl) (fun A ℓ a' w' => ∃ (x34 x35 x36 x37 x38 x39 x40 x7 : Value), a' = ((((((((A.put (some 34) x34).put (some 35) x35).put (some 36) x36).put (some 37) x37).put (some 38) x38).put (some 39) x39).put (some 40) x40).put (some 7) x7) ∧ R6 (WB) (#[.int .i64 0, .int .i64 0, .int .i64 0]) (#[.int .i64 y1, .int .i64 y2, .int .i64 y3]) (.pointer (some ⟨w.heap.size, 18, none⟩)) (.slice (some ⟨b1, o1, none⟩) n nc) (tbV t a) (.int .i64 c) (.int .i64 (i : Int)) (.pointer (some ⟨b1, o1 + i * 3, none⟩)) (.agg #[.int .i64 y1, .int .i64 y2, .int .i64 y3]) w' (ℓ 0) (ℓ 1) (ℓ 2) (ℓ 3) (ℓ 4) (ℓ 5) (ℓ 6) (ℓ 7) (ℓ 8) x34 x35 x36 x37 x38 x39 x40 x7) ?_ ?_ ?_ ?_
    · exact ⟨undef, undef, undef, undef, undef, undef, undef, undef, (by simp only [Act.put, List.setIfInBounds_toArray, List.set_cons_zero, List.set_cons_succ]), ⟨(fun g => by cases g), (Below.refl _ _).drew, (fun g => by cases g), (fun g => by cases g), (fun g => by cases g), (fun g => by cases g), (fun g => by cases g), (fun g => by cases g), (fun g => by cases g), (fun g => by cases g)⟩⟩
    · intro ℓ a' w' hI hall
      obtain ⟨x34, x35, x36, x37, x38, x39, x40, x7, rfl, hr⟩ := hI
      have hall' : ∀ i, i < 9 → ℓ i = true := hall
      obtain rfl := hr.f0 (hall' 0 (by decide))
      obtain rfl := hr.f1 (hall' 1 (by decide))
      obtain rfl := hr.f2 (hall' 2 (by decide))
      obtain rfl := hr.f3 (hall' 3 (by decide))
      obtain rfl := hr.f4 (hall' 4 (by decide))
      obtain rfl := hr.f5 (hall' 5 (by decide))
      obtain rfl := hr.f6 (hall' 6 (by decide))
      obtain ⟨N, rfl, hN, _, hrow⟩ := hr.f7 (hall' 7 (by decide))
      have hrow := hrow (hall' 8 (by decide))
      have hgb := hr.gb
      clear hall hall' hr
      simp only [Act.put, List.setIfInBounds_toArray, List.set_cons_zero, List.set_cons_succ]
      have HBA : Hid (Below WB.heap.size WB w') := hgb
      have HR7 : Hid (w'.heap[N]? = some (.cells #[.int .i64 y1, .int .i64 y2, .int .i64 y3] 98 (0, 0))) := hrow
      have HN7 : Hid (WB.heap.size ≤ N ∧ N < w'.heap.size) := ⟨hN, row_lt hrow⟩
      have HX7 : Hid (TBx w' w.heap.size t a) := HXB.out _ hgb
      clear hrow hgb hN
      go_wp2_with (first | (refine wpList_load_row rfl 41 (.tmp 2) rfl w.heap.size rfl 41 (tbA t a) (0, 0) _ HX7.out Tryz.underlying41 rfl (by kernel_rfl) ?_) | (refine wpList_load_row rfl 98 (.tmp 7) rfl N rfl 98 (#[.int .i64 y1, .int .i64 y2, .int .i64 y3]) (0, 0) _ HR7.out Tryz.underlying98 rfl (by kernel_rfl) ?_) | fail)
      refine Calls.mono (HRO.out _) ?_
      rintro e w3 ⟨rfl, hb3⟩
      have HBC : Hid (Below WB.heap.size WB w3) := HBA.out.trans (hb3.mono HBA.out.size)
      have HR8 : Hid (w3.heap[N]? = some (.cells #[.int .i64 y1, .int .i64 y2, .int .i64 y3] 98 (0, 0))) := row_below HR7.out hb3
      have HN8 : Hid (WB.heap.size ≤ N ∧ N < w3.heap.size) := ⟨HN7.out.1, row_lt HR8.out⟩
      clear hb3 HBA HR7 HN7 HX7
      have HR9 : Hid (w3.heap[N6]? = some (.cells #[.int .i64 c, .int .i64 0, .int .i64 (-1), .int .i64 2] 64 (0, 0))) := row_below HRZ.out HBC.out
      have H48 : Hid (w3.heap[w.heap.size + 1]? = some (.cells #[.int .i64 0, .int .i64 0, .int .i64 0, .int .i64 0] 64 (0, 0))) := row_below H4.out HBC.out
      have HB3 : Hid (Below w.heap.size w w3) := HB.out.trans (HBC.out.mono HN6.out.1)
      have HNE : Hid (N ≠ N6) := by have := HN8.out.1; have := row_lt HRZ.out; show _ ≠ _; omega
      have k0 := row_cell HR8.out 0 _ rfl
      have cc := row_cell HR9.out 2 _ rfl
      have cf := row_free HR9.out 2
      have c1 := row_cell HR9.out 1 _ rfl
      have cf1 := row_free HR9.out 1
      have c3 := row_cell HR9.out 3 _ rfl
      have HR10 : Hid (((w3.setCell ⟨N6, 2, none⟩ (.int .i64 y1)).setCell ⟨N6, 1, none⟩ (.int .i64 (bd + (y2 + y3 - grd)))).heap[N6]? = some (.cells #[.int .i64 c, .int .i64 (bd + (y2 + y3 - grd)), .int .i64 y1, .int .i64 2] 64 (0, 0))) := r3_set (r3_set HR9.out 2 _ rfl) 1 _ rfl
      have H410 : Hid (((w3.setCell ⟨N6, 2, none⟩ (.int .i64 y1)).setCell ⟨N6, 1, none⟩ (.int .i64 (bd + (y2 + y3 - grd)))).heap[w.heap.size + 1]? = some (.cells #[.int .i64 0, .int .i64 0, .int .i64 0, .int .i64 0] 64 (0, 0))) := row_other (row_other H48.out (by have := HN6.out.2; omega)) (by have := HN6.out.2; omega)
      have HB10 : Hid (Below w.heap.size w ((w3.setCell ⟨N6, 2, none⟩ (.int .i64 y1)).setCell ⟨N6, 1, none⟩ (.int .i64 (bd + (y2 + y3 - grd))))) := (HB3.out.setCell (p := ⟨N6, 2, none⟩) (by show w.heap.size ≤ N6; have := HN6.out.2; omega) _).setCell (p := ⟨N6, 1, none⟩) (by show w.heap.size ≤ N6; have := HN6.out.2; omega) _
      have hwr := HWR.out
      go_wp2_with (first | (refine wpList_load_row rfl 64 (.tmp 6) rfl N6 rfl 64 (#[.int .i64 c, .int .i64 (bd + (y2 + y3 - grd)), .int .i64 y1, .int .i64 2]) (0, 0) _ HR10.out Tryz.underlying64 rfl (by kernel_rfl) ?_) | (refine wpList_store_row rfl 64 (.tmp 4) (.tmp 69) rfl (w.heap.size + 1) (#[.int .i64 c, .int .i64 (bd + (y2 + y3 - grd)), .int .i64 y1, .int .i64 2]) rfl rfl 64 (#[.int .i64 0, .int .i64 0, .int .i64 0, .int .i64 0]) H410.out (by kernel_rfl) rfl (by simp [Value.oneCell']) ?_) | fail)
      exact bodyPost_ret (v := .agg #[.int .i64 c, .int .i64 (bd + (y2 + y3 - grd)), .int .i64 y1, .int .i64 2]) (res_rest (setRow_heap _ _ _ _ _ _ H410.out) rfl rfl) rfl ⟨_, by rw [HWE.out], HRT.out, below_setRow HB10.out (Nat.le_succ _) _⟩
    · intro ℓ a' w' i o hI ho hi hL hdep K hK
      obtain ⟨x34, x35, x36, x37, x38, x39, x40, x7, rfl, hr⟩ := hI
      have hi7 : i < 9 := hi
      have hcs : i = 0 ∨ i = 1 ∨ i = 2 ∨ i = 3 ∨ i = 4 ∨ i = 5 ∨ i = 6 ∨ i = 7 ∨ i = 8 := by omega
      clear hi hi7
      rcases hcs with rfl | rfl | rfl | rfl | rfl | rfl | rfl | rfl | rfl
      · revert hK
        obtain rfl := Option.some.inj ho
        clear hdep ho
        have hgb := hr.gb
        intro hK
        rw [if_pos (by rfl)]
        try simp only [Act.put, List.setIfInBounds_toArray, List.set_cons_zero, List.set_cons_succ]
        go_simp
        exact hK.out _ _ (fun j => if j = 0 then true else ℓ j) ⟨(.pointer (some ⟨w.heap.size, 18, none⟩)), x35, x36, x37, x38, x39, x40, x7, (by first | (simp only [Act.put, List.setIfInBounds_toArray, List.set_cons_zero, List.set_cons_succ]; done) | (simp only [Act.put, List.setIfInBounds_toArray, List.set_cons_zero, List.set_cons_succ]; rfl)), ⟨(fun g => ⟨rfl, (hr.cs g).2.1, (hr.cs g).2.2.1, (hr.cs g).2.2.2.1, (hr.cs g).2.2.2.2.1, (hr.cs g).2.2.2.2.2.1, (hr.cs g).2.2.2.2.2.2.1, (hr.cs g).2.2.2.2.2.2.2.1, trivial⟩), hr.gb, (fun _ => rfl), hr.f1, hr.f2, hr.f3, hr.f4, hr.f5, hr.f6, hr.f7⟩⟩ (if_pos rfl) (fun j hj => if_neg hj)
      · revert hK
        obtain rfl := Option.some.inj ho
        have g0 : ℓ 0 = true := hdep { on := 0, ground := Ground.data } (by simp) rfl
        clear hdep ho
        have hl : ℓ 8 = false := by
          cases h7 : ℓ 8
          · rfl
          · have := (hr.cs h7).2.1; rw [this] at hL; cases hL
        have hgb := hr.gb
        obtain rfl := hr.f0 g0
        intro hK
        rw [if_pos (by rfl)]
        try simp only [Act.put, List.setIfInBounds_toArray, List.set_cons_zero, List.set_cons_succ]
        have cc := (HSC.out _ hgb)
        go_simp
        exact hK.out _ _ (fun j => if j = 1 then true else ℓ j) ⟨(.pointer (some ⟨w.heap.size, 18, none⟩)), (.slice (some ⟨b1, o1, none⟩) n nc), x36, x37, x38, x39, x40, x7, (by first | (simp only [Act.put, List.setIfInBounds_toArray, List.set_cons_zero, List.set_cons_succ]; done) | (simp only [Act.put, List.setIfInBounds_toArray, List.set_cons_zero, List.set_cons_succ]; rfl)), ⟨(fun g => ⟨(hr.cs g).1, rfl, (hr.cs g).2.2.1, (hr.cs g).2.2.2.1, (hr.cs g).2.2.2.2.1, (hr.cs g).2.2.2.2.2.1, (hr.cs g).2.2.2.2.2.2.1, (hr.cs g).2.2.2.2.2.2.2.1, trivial⟩), hr.gb, hr.f0, (fun _ => rfl), hr.f2, hr.f3, hr.f4, hr.f5, hr.f6, hr.f7⟩⟩ (if_pos rfl) (fun j hj => if_neg hj)
      · replace ho : some ({ dst := some 36, op := .load 41 (.tmp 2), type := 41, pos := "l24_audit.go:28", after := #[], guard := none } : Oper) = some o := ho
        revert hK
        obtain rfl := Option.some.inj ho
        clear hdep ho
        have hl : ℓ 8 = false := by
          cases h7 : ℓ 8
          · rfl
          · have := (hr.cs h7).2.2.1; rw [this] at hL; cases hL
        have hgb := hr.gb
        intro hK
        rw [if_pos (by rfl)]
        try simp only [Act.put, List.setIfInBounds_toArray, List.set_cons_zero, List.set_cons_succ]
        refine wp_load_row (P := Tryz.prog) 41 (.tmp 2) rfl w.heap.size rfl 41 (tbA t a) (0, 0) _ ((HXB.out _ hgb)) Tryz.underlying41 rfl (by kernel_rfl) ?_
        exact hK.out _ _ (fun j => if j = 2 then true else ℓ j) ⟨x34, x35, (tbV t a), x37, x38, x39, x40, x7, (by first | (simp only [Act.put, List.setIfInBounds_toArray, List.set_cons_zero, List.set_cons_succ]; done) | (simp only [Act.put, List.setIfInBounds_toArray, List.set_cons_zero, List.set_cons_succ]; rfl)), ⟨(fun g => ⟨(hr.cs g).1, (hr.cs g).2.1, rfl, (hr.cs g).2.2.2.1, (hr.cs g).2.2.2.2.1, (hr.cs g).2.2.2.2.2.1, (hr.cs g).2.2.2.2.2.2.1, (hr.cs g).2.2.2.2.2.2.2.1, trivial⟩), hr.gb, hr.f0, hr.f1, (fun _ => rfl), hr.f3, hr.f4, hr.f5, hr.f6, hr.f7⟩⟩ (if_pos rfl) (fun j hj => if_neg hj)
      · revert hK
        obtain rfl := Option.some.inj ho
        clear hdep ho
        have hgb := hr.gb
        intro hK
        rw [if_pos (by rfl)]
        try simp only [Act.put, List.setIfInBounds_toArray, List.set_cons_zero, List.set_cons_succ]
        go_simp
        exact hK.out _ _ (fun j => if j = 3 then true else ℓ j) ⟨x34, x35, x36, (.int .i64 c), x38, x39, x40, x7, (by first | (simp only [Act.put, List.setIfInBounds_toArray, List.set_cons_zero, List.set_cons_succ]; done) | (simp only [Act.put, List.setIfInBounds_toArray, List.set_cons_zero, List.set_cons_succ]; rfl)), ⟨(fun g => ⟨(hr.cs g).1, (hr.cs g).2.1, (hr.cs g).2.2.1, rfl, (hr.cs g).2.2.2.2.1, (hr.cs g).2.2.2.2.2.1, (hr.cs g).2.2.2.2.2.2.1, (hr.cs g).2.2.2.2.2.2.2.1, trivial⟩), hr.gb, hr.f0, hr.f1, hr.f2, (fun _ => rfl), hr.f4, hr.f5, hr.f6, hr.f7⟩⟩ (if_pos rfl) (fun j hj => if_neg hj)
      · revert hK
        obtain rfl := Option.some.inj ho
        have g2 : ℓ 2 = true := hdep { on := 2, ground := Ground.data } (by simp) rfl
        have g3 : ℓ 3 = true := hdep { on := 3, ground := Ground.data } (by simp) rfl
        clear hdep ho
        have hl : ℓ 8 = false := by
          cases h7 : ℓ 8
          · rfl
          · have := (hr.cs h7).2.2.2.2.1; rw [this] at hL; cases hL
        have hgb := hr.gb
        obtain rfl := hr.f2 g2
        obtain rfl := hr.f3 g3
        intro hK
        rw [if_pos (by rfl)]
        try simp only [Act.put, List.setIfInBounds_toArray, List.set_cons_zero, List.set_cons_succ]
        go_simp
        refine Calls.mono (HSA.out _ hgb) ?_
        rintro e w9 ⟨rfl, hb9⟩
        have hr9 := hr.below hb9
        exact hK.out _ _ (fun j => if j = 4 then true else ℓ j) ⟨x34, x35, (tbV t a), (.int .i64 c), (.int .i64 (i : Int)), x39, x40, x7, (by first | (simp only [Act.put, List.setIfInBounds_toArray, List.set_cons_zero, List.set_cons_succ]; done) | (simp only [Act.put, List.setIfInBounds_toArray, List.set_cons_zero, List.set_cons_succ]; rfl)), ⟨(fun g => ⟨(hr9.cs g).1, (hr9.cs g).2.1, (hr9.cs g).2.2.1, (hr9.cs g).2.2.2.1, rfl, (hr9.cs g).2.2.2.2.2.1, (hr9.cs g).2.2.2.2.2.2.1, (hr9.cs g).2.2.2.2.2.2.2.1, trivial⟩), hr9.gb, hr9.f0, hr9.f1, hr9.f2, hr9.f3, (fun _ => rfl), hr9.f5, hr9.f6, hr9.f7⟩⟩ (if_pos rfl) (fun j hj => if_neg hj)
      · revert hK
        obtain rfl := Option.some.inj ho
        have g1 : ℓ 1 = true := hdep { on := 1, ground := Ground.data } (by simp) rfl
        have g4 : ℓ 4 = true := hdep { on := 4, ground := Ground.data } (by simp) rfl
        clear hdep ho
        have hgb := hr.gb
        obtain rfl := hr.f1 g1
        obtain rfl := hr.f4 g4
        intro hK
        rw [if_pos (by rfl)]
        try simp only [Act.put, List.setIfInBounds_toArray, List.set_cons_zero, List.set_cons_succ]
        have hin := HIN.out
        go_simp
        exact hK.out _ _ (fun j => if j = 5 then true else ℓ j) ⟨x34, (.slice (some ⟨b1, o1, none⟩) n nc), x36, x37, (.int .i64 (i : Int)), (.pointer (some ⟨b1, o1 + i * 3, none⟩)), x40, x7, (by first | (simp only [Act.put, List.setIfInBounds_toArray, List.set_cons_zero, List.set_cons_succ]; done) | (simp only [Act.put, List.setIfInBounds_toArray, List.set_cons_zero, List.set_cons_succ]; rfl)), ⟨(fun g => ⟨(hr.cs g).1, (hr.cs g).2.1, (hr.cs g).2.2.1, (hr.cs g).2.2.2.1, (hr.cs g).2.2.2.2.1, rfl, (hr.cs g).2.2.2.2.2.2.1, (hr.cs g).2.2.2.2.2.2.2.1, trivial⟩), hr.gb, hr.f0, hr.f1, hr.f2, hr.f3, hr.f4, (fun _ => rfl), hr.f6, hr.f7⟩⟩ (if_pos rfl) (fun j hj => if_neg hj)
      · revert hK
        obtain rfl := Option.some.inj ho
        have g5 : ℓ 5 = true := hdep { on := 5, ground := Ground.data } (by simp) rfl
        clear hdep ho
        have hgb := hr.gb
        obtain rfl := hr.f5 g5
        intro hK
        rw [if_pos (by rfl)]
        try simp only [Act.put, List.setIfInBounds_toArray, List.set_cons_zero, List.set_cons_succ]
        have hgb := hr.gb
        obtain ⟨cc0, cc1, cc2⟩ := HCE.out _ hgb
        go_simp
        exact hK.out _ _ (fun j => if j = 6 then true else ℓ j) ⟨x34, x35, x36, x37, x38, (.pointer (some ⟨b1, o1 + i * 3, none⟩)), (.agg #[.int .i64 y1, .int .i64 y2, .int .i64 y3]), x7, (by first | (simp only [Act.put, List.setIfInBounds_toArray, List.set_cons_zero, List.set_cons_succ]; done) | (simp only [Act.put, List.setIfInBounds_toArray, List.set_cons_zero, List.set_cons_succ]; rfl)), ⟨(fun g => ⟨(hr.cs g).1, (hr.cs g).2.1, (hr.cs g).2.2.1, (hr.cs g).2.2.2.1, (hr.cs g).2.2.2.2.1, (hr.cs g).2.2.2.2.2.1, rfl, (hr.cs g).2.2.2.2.2.2.2.1, trivial⟩), hr.gb, hr.f0, hr.f1, hr.f2, hr.f3, hr.f4, hr.f5, (fun _ => rfl), hr.f7⟩⟩ (if_pos rfl) (fun j hj => if_neg hj)
      · revert hK
        obtain rfl := Option.some.inj ho
        clear hdep ho
        have hl : ℓ 8 = false := by
          cases h7 : ℓ 8
          · rfl
          · have := (hr.cs h7).2.2.2.2.2.2.2.1; rw [this] at hL; cases hL
        have hgb := hr.gb
        intro hK
        rw [if_pos (by rfl)]
        try simp only [Act.put, List.setIfInBounds_toArray, List.set_cons_zero, List.set_cons_succ]
        have hr9 := hr.below (w9 := w'.alloc (.cells (#[.int .i64 0, .int .i64 0, .int .i64 0]) 98)) ((Below.refl _ _).alloc (Nat.le_refl _) _)
        go_simp
        exact hK.out _ _ (fun j => if j = 7 then true else ℓ j) ⟨x34, x35, x36, x37, x38, x39, x40, (.pointer (some ⟨w'.heap.size, 0, none⟩)), (by first | (simp only [Act.put, List.setIfInBounds_toArray, List.set_cons_zero, List.set_cons_succ]; done) | (simp only [Act.put, List.setIfInBounds_toArray, List.set_cons_zero, List.set_cons_succ]; rfl)), ⟨(fun g => ⟨(hr9.cs g).1, (hr9.cs g).2.1, (hr9.cs g).2.2.1, (hr9.cs g).2.2.2.1, (hr9.cs g).2.2.2.2.1, (hr9.cs g).2.2.2.2.2.1, (hr9.cs g).2.2.2.2.2.2.1, rfl, trivial⟩), hr9.gb, hr9.f0, hr9.f1, hr9.f2, hr9.f3, hr9.f4, hr9.f5, hr9.f6, (fun _ => ⟨w'.heap.size, rfl, hgb.size, (fun _ => new_row w' _ _ _ rfl), (fun g => by have g' : ℓ 8 = true := g; rw [hl] at g'; cases g')⟩)⟩⟩ (if_pos rfl) (fun j hj => if_neg hj)
      · replace ho : some ({ dst := none, op := .store 98 (.tmp 7) (.tmp 40), type := 0, pos := "l24_audit.go:28", after := #[{ on := 7, ground := Ground.data }, { on := 6, ground := Ground.data }, { on := 4, ground := Ground.chain }, { on := 0, ground := Ground.phase }, { on := 1, ground := Ground.phase }, { on := 2, ground := Ground.phase }, { on := 3, ground := Ground.phase }, { on := 4, ground := Ground.phase }, { on := 5, ground := Ground.phase }, { on := 6, ground := Ground.phase }, { on := 7, ground := Ground.phase }], guard := none } : Oper) = some o := ho
        revert hK
        obtain rfl := Option.some.inj ho
        have g7 : ℓ 7 = true := hdep { on := 7, ground := Ground.data } (by simp) rfl
        have g6 : ℓ 6 = true := hdep { on := 6, ground := Ground.data } (by simp) rfl
        have g0 : ℓ 0 = true := hdep { on := 0, ground := Ground.phase } (by simp) rfl
        have g1 : ℓ 1 = true := hdep { on := 1, ground := Ground.phase } (by simp) rfl
        have g2 : ℓ 2 = true := hdep { on := 2, ground := Ground.phase } (by simp) rfl
        have g3 : ℓ 3 = true := hdep { on := 3, ground := Ground.phase } (by simp) rfl
        have g4 : ℓ 4 = true := hdep { on := 4, ground := Ground.phase } (by simp) rfl
        have g5 : ℓ 5 = true := hdep { on := 5, ground := Ground.phase } (by simp) rfl
        clear hdep ho
        have hgb := hr.gb
        obtain ⟨N, rfl, hN, hrow, _⟩ := hr.f7 g7
        obtain rfl := hr.f6 g6
        intro hK
        rw [if_pos (by rfl)]
        try simp only [Act.put, List.setIfInBounds_toArray, List.set_cons_zero, List.set_cons_succ]
        refine wp_store_row (P := Tryz.prog) 98 (.tmp 7) (.tmp 40) rfl N (#[.int .i64 y1, .int .i64 y2, .int .i64 y3]) rfl rfl 98 (#[.int .i64 0, .int .i64 0, .int .i64 0]) (hrow hL) (by kernel_rfl) rfl (by simp [Value.oneCell']) ?_
        exact hK.out _ _ (fun j => if j = 8 then true else ℓ j) ⟨x34, x35, x36, x37, x38, x39, (.agg #[.int .i64 y1, .int .i64 y2, .int .i64 y3]), (.pointer (some ⟨N, 0, none⟩)), (by first | (simp only [Act.put, List.setIfInBounds_toArray, List.set_cons_zero, List.set_cons_succ]; done) | (simp only [Act.put, List.setIfInBounds_toArray, List.set_cons_zero, List.set_cons_succ]; rfl)), ⟨(fun _ => ⟨g0, g1, g2, g3, g4, g5, g6, g7, trivial⟩), below_setRow hr.gb hN _, hr.f0, hr.f1, hr.f2, hr.f3, hr.f4, hr.f5, hr.f6, (fun _ => ⟨N, rfl, hN, (fun g => by cases g), fun _ => setRow_heap _ _ _ _ _ _ (hrow hL)⟩)⟩⟩ (if_pos rfl) (fun j hj => if_neg hj)
    · rintro a' w' ℓ ℓ' hℓ hI
      rw [← show ℓ = ℓ' from funext hℓ]
      exact hI
  · go_wp2
    revert HB HX H4 HRZ HN6 HNW
    generalize (w2.alloc (.cells #[.int .i64 c, .int .i64 0, .int .i64 (-1), .int .i64 3] 64)) = WB
    generalize w2.heap.size = N6
    intro HB HX H4 HRZ HN6 HNW
    clear c3
    have HXB : Hid (∀ X, Below WB.heap.size WB X → TBx X w.heap.size t a) := fun X hX => HX.out.below hX
    obtain ⟨i, hi, hsi, _⟩ := HPS.out (by decide)
    have HRT0 : Hid _ := HRS.out i hi hsi
    have HWE : Hid (wo = (t.ss.getD i sl0).1) := by show _ = _; rw [← HWO.out]; unfold whoV; rw [hsi, if_neg (by omega)]; rfl
    obtain ⟨b1, o1, hsa, hbl1, p1⟩ := (HSL.out _ HB.out).at i (by omega)
    have HSC : Hid (∀ X, Below WB.heap.size WB X → X.cell? ⟨w.heap.size, 18, none⟩ = some (.slice (some ⟨b1, o1, none⟩) a.sn a.sc)) := fun X hX => by rw [← hsa]; exact (HXB.out X hX).cell 18 rfl
    have HCE : Hid (∀ X, Below WB.heap.size WB X → X.cell? ⟨b1, o1 + i * 3, none⟩ = some (.int .i64 (t.ss.getD i sl0).1) ∧ X.cell? ⟨b1, o1 + i * 3 + 1, none⟩ = some (.int .i64 (t.ss.getD i sl0).2.1) ∧ X.cell? ⟨b1, o1 + i * 3 + 2, none⟩ = some (.int .i64 (t.ss.getD i sl0).2.2)) := fun X hX => by
      have := p1.of (w' := X) (fun j => hX.cell (p := ⟨b1, j, none⟩) hbl1)
      simp only [slX] at this
      exact sl_cells this
    have HSA : Hid (∀ X, Below WB.heap.size WB X → Calls Tryz.prog 82 #[tbV t a, .int .i64 c] X fun e w' => e = .returned (.int .i64 (i : Int)) ∧ Below X.heap.size X w') := fun X hX => by
      rw [← hsi]
      exact HSX.out X (HB.out.trans (hX.mono HN6.out.1))
    have hx := HTM.out.st i hi
    have hx2 := HTM.out.en i hi
    have hx3 := HTM.out.ln i hi
    have hp1 := HTM.out.pad1
    have hp2 := HTM.out.pad2
    have hg1 := HTM.out.grd1
    have hg2 := HTM.out.grd2
    have HRP : Hid (∀ (x1 x2 x3 : Int), (0 ≤ x2 ∧ 0 ≤ x3 ∧ x2 + x3 ≤ 5000) → ∀ X, Calls Tryz.prog 83 #[tbV t a, .agg #[.int .i64 x1, .int .i64 x2, .int .i64 x3]] X fun e w' => e = .returned (.tuple #[.int .i64 (x2 + t.pad), .int .i64 (x2 + x3 - t.grd)]) ∧ Below X.heap.size X w') := fun x1 x2 x3 h X => run_of t a x1 x2 x3 X ⟨hp1, hp2⟩ ⟨hg1, hg2⟩ h
    have HIN : Hid ((i : Int) < (a.sn : Int) ∧ i < a.sn) := ⟨by omega, by omega⟩
    replace hn : a.sn ≤ 1048576 := hn
    clear HNX HSX HSL HRF HRS HPS HPN hsi p1 hbl1 HX HWO hsa hi hL
    generalize t.ss.getD i sl0 = y at *
    obtain ⟨y1, y2, y3⟩ := y
    simp only [rsV] at HRT0 HWE HCE hx hx2 hx3 ⊢
    have HRO := (HRP.out y1 y2 y3 ⟨by omega, by omega, by omega⟩)
    replace HRO : Hid _ := HRO
    have HSE : Hid (∀ X, Calls Tryz.prog 84 #[.agg #[.int .i64 y1, .int .i64 y2, .int .i64 y3]] X fun e w' => e = .returned (.int .i64 (y2 + y3)) ∧ Below X.heap.size X w') := fun X => slot_end y1 y2 y3 X (by rw [IntKind.wrap_i64]; omega)
    have HWR : Hid (IntKind.i64.wrap (bd + (y2 + t.pad)) = bd + (y2 + t.pad) ∧ IntKind.i64.wrap (bd + (y2 + y3 - t.grd)) = bd + (y2 + y3 - t.grd) ∧ IntKind.i64.wrap (bd + (y2 + y3)) = bd + (y2 + y3)) := by
      refine ⟨?_, ?_, ?_⟩ <;> (rw [IntKind.wrap_i64]; omega)
    have HRT : Hid (RT t c (bd + (y2 + y3))) := by have := HRT0.out; show RT t c (bd + (y2 + y3)); simpa using this
    clear HRT0 HRP
    generalize t.pad = pad at *
    generalize t.grd = grd at *
    obtain ⟨n, hnn⟩ : ∃ n, a.sn = n := ⟨_, rfl⟩
    obtain ⟨nc, hnc⟩ : ∃ nc, a.sc = nc := ⟨_, rfl⟩
    rw [hnn] at HSC HIN hn
    rw [hnc] at HSC
    clear hnn hnc
    refine wp_region_inv (by kernel_rfl) (by kernel_rfl) (fun A ℓ a' w' => ∃ (x34 x35 x36 x37 x38 x39 x40 x7 : Value), a' = ((((((((A.put (some 34) x34).put (some 35) x35).put (some 36) x36).put (some 37) x37).put (some 38) x38).put (some 39) x39).put (some 40) x40).put (some 7) x7) ∧ R6 (WB) (#[.int .i64 0, .int .i64 0, .int .i64 0]) (#[.int .i64 y1, .int .i64 y2, .int .i64 y3]) (.pointer (some ⟨w.heap.size, 18, none⟩)) (.slice (some ⟨b1, o1, none⟩) n nc) (tbV t a) (.int .i64 c) (.int .i64 (i : Int)) (.pointer (some ⟨b1, o1 + i * 3, none⟩)) (.agg #[.int .i64 y1, .int .i64 y2, .int .i64 y3]) w' (ℓ 0) (ℓ 1) (ℓ 2) (ℓ 3) (ℓ 4) (ℓ 5) (ℓ 6) (ℓ 7) (ℓ 8) x34 x35 x36 x37 x38 x39 x40 x7) ?_ ?_ ?_ ?_
    · exact ⟨undef, undef, undef, undef, undef, undef, undef, undef, (by simp only [Act.put, List.setIfInBounds_toArray, List.set_cons_zero, List.set_cons_succ]), ⟨(fun g => by cases g), (Below.refl _ _).drew, (fun g => by cases g), (fun g => by cases g), (fun g => by cases g), (fun g => by cases g), (fun g => by cases g), (fun g => by cases g), (fun g => by cases g), (fun g => by cases g)⟩⟩
    · intro ℓ a' w' hI hall
      obtain ⟨x34, x35, x36, x37, x38, x39, x40, x7, rfl, hr⟩ := hI
      have hall' : ∀ i, i < 9 → ℓ i = true := hall
      obtain rfl := hr.f0 (hall' 0 (by decide))
      obtain rfl := hr.f1 (hall' 1 (by decide))
      obtain rfl := hr.f2 (hall' 2 (by decide))
      obtain rfl := hr.f3 (hall' 3 (by decide))
      obtain rfl := hr.f4 (hall' 4 (by decide))
      obtain rfl := hr.f5 (hall' 5 (by decide))
      obtain rfl := hr.f6 (hall' 6 (by decide))
      obtain ⟨N, rfl, hN, _, hrow⟩ := hr.f7 (hall' 7 (by decide))
      have hrow := hrow (hall' 8 (by decide))
      have hgb := hr.gb
      clear hall hall' hr
      simp only [Act.put, List.setIfInBounds_toArray, List.set_cons_zero, List.set_cons_succ]
      have HBA : Hid (Below WB.heap.size WB w') := hgb
      have HR7 : Hid (w'.heap[N]? = some (.cells #[.int .i64 y1, .int .i64 y2, .int .i64 y3] 98 (0, 0))) := hrow
      have HN7 : Hid (WB.heap.size ≤ N ∧ N < w'.heap.size) := ⟨hN, row_lt hrow⟩
      have HX7 : Hid (TBx w' w.heap.size t a) := HXB.out _ hgb
      clear hrow hgb hN
      go_wp2_with (first | (refine wpList_load_row rfl 41 (.tmp 2) rfl w.heap.size rfl 41 (tbA t a) (0, 0) _ HX7.out Tryz.underlying41 rfl (by kernel_rfl) ?_) | (refine wpList_load_row rfl 98 (.tmp 7) rfl N rfl 98 (#[.int .i64 y1, .int .i64 y2, .int .i64 y3]) (0, 0) _ HR7.out Tryz.underlying98 rfl (by kernel_rfl) ?_) | fail)
      refine Calls.mono (HRO.out _) ?_
      rintro e w3 ⟨rfl, hb3⟩
      have HBC : Hid (Below WB.heap.size WB w3) := HBA.out.trans (hb3.mono HBA.out.size)
      have HR8 : Hid (w3.heap[N]? = some (.cells #[.int .i64 y1, .int .i64 y2, .int .i64 y3] 98 (0, 0))) := row_below HR7.out hb3
      have HN8 : Hid (WB.heap.size ≤ N ∧ N < w3.heap.size) := ⟨HN7.out.1, row_lt HR8.out⟩
      clear hb3 HBA HR7 HN7 HX7
      have HR9 : Hid (w3.heap[N6]? = some (.cells #[.int .i64 c, .int .i64 0, .int .i64 (-1), .int .i64 3] 64 (0, 0))) := row_below HRZ.out HBC.out
      have H48 : Hid (w3.heap[w.heap.size + 1]? = some (.cells #[.int .i64 0, .int .i64 0, .int .i64 0, .int .i64 0] 64 (0, 0))) := row_below H4.out HBC.out
      have HB3 : Hid (Below w.heap.size w w3) := HB.out.trans (HBC.out.mono HN6.out.1)
      have HNE : Hid (N ≠ N6) := by have := HN8.out.1; have := row_lt HRZ.out; show _ ≠ _; omega
      have k0 := row_cell HR8.out 0 _ rfl
      have cc := row_cell HR9.out 2 _ rfl
      have cf := row_free HR9.out 2
      have c1 := row_cell HR9.out 1 _ rfl
      have cf1 := row_free HR9.out 1
      have c3 := row_cell HR9.out 3 _ rfl
      have HR10 : Hid (((w3.setCell ⟨N6, 2, none⟩ (.int .i64 y1)).setCell ⟨N6, 1, none⟩ (.int .i64 (bd + (y2 + y3)))).heap[N6]? = some (.cells #[.int .i64 c, .int .i64 (bd + (y2 + y3)), .int .i64 y1, .int .i64 3] 64 (0, 0))) := r3_set (r3_set HR9.out 2 _ rfl) 1 _ rfl
      have H410 : Hid (((w3.setCell ⟨N6, 2, none⟩ (.int .i64 y1)).setCell ⟨N6, 1, none⟩ (.int .i64 (bd + (y2 + y3)))).heap[w.heap.size + 1]? = some (.cells #[.int .i64 0, .int .i64 0, .int .i64 0, .int .i64 0] 64 (0, 0))) := row_other (row_other H48.out (by have := HN6.out.2; omega)) (by have := HN6.out.2; omega)
      have HB10 : Hid (Below w.heap.size w ((w3.setCell ⟨N6, 2, none⟩ (.int .i64 y1)).setCell ⟨N6, 1, none⟩ (.int .i64 (bd + (y2 + y3))))) := (HB3.out.setCell (p := ⟨N6, 2, none⟩) (by show w.heap.size ≤ N6; have := HN6.out.2; omega) _).setCell (p := ⟨N6, 1, none⟩) (by show w.heap.size ≤ N6; have := HN6.out.2; omega) _
      have HRW : Hid ((w3.setCell ⟨N6, 2, none⟩ (.int .i64 y1)).heap[N]? = some (.cells #[.int .i64 y1, .int .i64 y2, .int .i64 y3] 98 (0, 0))) := row_other HR8.out HNE.out
      have HR9b : Hid ((w3.setCell ⟨N6, 2, none⟩ (.int .i64 y1)).heap[N6]? = some (.cells #[.int .i64 c, .int .i64 0, .int .i64 y1, .int .i64 3] 64 (0, 0))) := r3_set HR9.out 2 _ rfl
      have H48b : Hid ((w3.setCell ⟨N6, 2, none⟩ (.int .i64 y1)).heap[w.heap.size + 1]? = some (.cells #[.int .i64 0, .int .i64 0, .int .i64 0, .int .i64 0] 64 (0, 0))) := row_other H48.out (by have := HN6.out.2; omega)
      have HB3b : Hid (Below w.heap.size w (w3.setCell ⟨N6, 2, none⟩ (.int .i64 y1))) := HB3.out.setCell (p := ⟨N6, 2, none⟩) (by show w.heap.size ≤ N6; have := HN6.out.2; omega) _
      clear HR10 H410 HB10
      go_wp2_with (first | (refine wpList_load_row rfl 98 (.tmp 7) rfl N rfl 98 (#[.int .i64 y1, .int .i64 y2, .int .i64 y3]) (0, 0) _ HRW.out Tryz.underlying98 rfl (by kernel_rfl) ?_) | fail)
      refine Calls.mono (HSE.out _) ?_
      rintro e w5 ⟨rfl, hb5⟩
      have HR5 : Hid (w5.heap[N6]? = some (.cells #[.int .i64 c, .int .i64 0, .int .i64 y1, .int .i64 3] 64 (0, 0))) := row_below HR9b.out hb5
      have H45 : Hid (w5.heap[w.heap.size + 1]? = some (.cells #[.int .i64 0, .int .i64 0, .int .i64 0, .int .i64 0] 64 (0, 0))) := row_below H48b.out hb5
      have HB5 : Hid (Below w.heap.size w w5) := HB3b.out.trans (hb5.mono HB3b.out.size)
      have HR10 : Hid ((w5.setCell ⟨N6, 1, none⟩ (.int .i64 (bd + (y2 + y3)))).heap[N6]? = some (.cells #[.int .i64 c, .int .i64 (bd + (y2 + y3)), .int .i64 y1, .int .i64 3] 64 (0, 0))) := r3_set HR5.out 1 _ rfl
      have H410 : Hid ((w5.setCell ⟨N6, 1, none⟩ (.int .i64 (bd + (y2 + y3)))).heap[w.heap.size + 1]? = some (.cells #[.int .i64 0, .int .i64 0, .int .i64 0, .int .i64 0] 64 (0, 0))) := row_other H45.out (by have := HN6.out.2; omega)
      have HB10 : Hid (Below w.heap.size w (w5.setCell ⟨N6, 1, none⟩ (.int .i64 (bd + (y2 + y3))))) := HB5.out.setCell (p := ⟨N6, 1, none⟩) (by show w.heap.size ≤ N6; have := HN6.out.2; omega) _
      clear c1 cf1 c3 cc cf k0
      have c1 := row_cell HR5.out 1 _ rfl
      have cf1 := row_free HR5.out 1
      have hwr := HWR.out
      go_wp2_with (first | (refine wpList_load_row rfl 64 (.tmp 6) rfl N6 rfl 64 (#[.int .i64 c, .int .i64 (bd + (y2 + y3)), .int .i64 y1, .int .i64 3]) (0, 0) _ HR10.out Tryz.underlying64 rfl (by kernel_rfl) ?_) | (refine wpList_store_row rfl 64 (.tmp 4) (.tmp 69) rfl (w.heap.size + 1) (#[.int .i64 c, .int .i64 (bd + (y2 + y3)), .int .i64 y1, .int .i64 3]) rfl rfl 64 (#[.int .i64 0, .int .i64 0, .int .i64 0, .int .i64 0]) H410.out (by kernel_rfl) rfl (by simp [Value.oneCell']) ?_) | fail)
      exact bodyPost_ret (v := .agg #[.int .i64 c, .int .i64 (bd + (y2 + y3)), .int .i64 y1, .int .i64 3]) (res_rest (setRow_heap _ _ _ _ _ _ H410.out) rfl rfl) rfl ⟨_, by rw [HWE.out], HRT.out, below_setRow HB10.out (Nat.le_succ _) _⟩
    · intro ℓ a' w' i o hI ho hi hL hdep K hK
      obtain ⟨x34, x35, x36, x37, x38, x39, x40, x7, rfl, hr⟩ := hI
      have hi7 : i < 9 := hi
      have hcs : i = 0 ∨ i = 1 ∨ i = 2 ∨ i = 3 ∨ i = 4 ∨ i = 5 ∨ i = 6 ∨ i = 7 ∨ i = 8 := by omega
      clear hi hi7
      rcases hcs with rfl | rfl | rfl | rfl | rfl | rfl | rfl | rfl | rfl
      · revert hK
        obtain rfl := Option.some.inj ho
        clear hdep ho
        have hgb := hr.gb
        intro hK
        rw [if_pos (by rfl)]
        try simp only [Act.put, List.setIfInBounds_toArray, List.set_cons_zero, List.set_cons_succ]
        go_simp
        exact hK.out _ _ (fun j => if j = 0 then true else ℓ j) ⟨(.pointer (some ⟨w.heap.size, 18, none⟩)), x35, x36, x37, x38, x39, x40, x7, (by first | (simp only [Act.put, List.setIfInBounds_toArray, List.set_cons_zero, List.set_cons_succ]; done) | (simp only [Act.put, List.setIfInBounds_toArray, List.set_cons_zero, List.set_cons_succ]; rfl)), ⟨(fun g => ⟨rfl, (hr.cs g).2.1, (hr.cs g).2.2.1, (hr.cs g).2.2.2.1, (hr.cs g).2.2.2.2.1, (hr.cs g).2.2.2.2.2.1, (hr.cs g).2.2.2.2.2.2.1, (hr.cs g).2.2.2.2.2.2.2.1, trivial⟩), hr.gb, (fun _ => rfl), hr.f1, hr.f2, hr.f3, hr.f4, hr.f5, hr.f6, hr.f7⟩⟩ (if_pos rfl) (fun j hj => if_neg hj)
      · revert hK
        obtain rfl := Option.some.inj ho
        have g0 : ℓ 0 = true := hdep { on := 0, ground := Ground.data } (by simp) rfl
        clear hdep ho
        have hl : ℓ 8 = false := by
          cases h7 : ℓ 8
          · rfl
          · have := (hr.cs h7).2.1; rw [this] at hL; cases hL
        have hgb := hr.gb
        obtain rfl := hr.f0 g0
        intro hK
        rw [if_pos (by rfl)]
        try simp only [Act.put, List.setIfInBounds_toArray, List.set_cons_zero, List.set_cons_succ]
        have cc := (HSC.out _ hgb)
        go_simp
        exact hK.out _ _ (fun j => if j = 1 then true else ℓ j) ⟨(.pointer (some ⟨w.heap.size, 18, none⟩)), (.slice (some ⟨b1, o1, none⟩) n nc), x36, x37, x38, x39, x40, x7, (by first | (simp only [Act.put, List.setIfInBounds_toArray, List.set_cons_zero, List.set_cons_succ]; done) | (simp only [Act.put, List.setIfInBounds_toArray, List.set_cons_zero, List.set_cons_succ]; rfl)), ⟨(fun g => ⟨(hr.cs g).1, rfl, (hr.cs g).2.2.1, (hr.cs g).2.2.2.1, (hr.cs g).2.2.2.2.1, (hr.cs g).2.2.2.2.2.1, (hr.cs g).2.2.2.2.2.2.1, (hr.cs g).2.2.2.2.2.2.2.1, trivial⟩), hr.gb, hr.f0, (fun _ => rfl), hr.f2, hr.f3, hr.f4, hr.f5, hr.f6, hr.f7⟩⟩ (if_pos rfl) (fun j hj => if_neg hj)
      · replace ho : some ({ dst := some 36, op := .load 41 (.tmp 2), type := 41, pos := "l24_audit.go:28", after := #[], guard := none } : Oper) = some o := ho
        revert hK
        obtain rfl := Option.some.inj ho
        clear hdep ho
        have hl : ℓ 8 = false := by
          cases h7 : ℓ 8
          · rfl
          · have := (hr.cs h7).2.2.1; rw [this] at hL; cases hL
        have hgb := hr.gb
        intro hK
        rw [if_pos (by rfl)]
        try simp only [Act.put, List.setIfInBounds_toArray, List.set_cons_zero, List.set_cons_succ]
        refine wp_load_row (P := Tryz.prog) 41 (.tmp 2) rfl w.heap.size rfl 41 (tbA t a) (0, 0) _ ((HXB.out _ hgb)) Tryz.underlying41 rfl (by kernel_rfl) ?_
        exact hK.out _ _ (fun j => if j = 2 then true else ℓ j) ⟨x34, x35, (tbV t a), x37, x38, x39, x40, x7, (by first | (simp only [Act.put, List.setIfInBounds_toArray, List.set_cons_zero, List.set_cons_succ]; done) | (simp only [Act.put, List.setIfInBounds_toArray, List.set_cons_zero, List.set_cons_succ]; rfl)), ⟨(fun g => ⟨(hr.cs g).1, (hr.cs g).2.1, rfl, (hr.cs g).2.2.2.1, (hr.cs g).2.2.2.2.1, (hr.cs g).2.2.2.2.2.1, (hr.cs g).2.2.2.2.2.2.1, (hr.cs g).2.2.2.2.2.2.2.1, trivial⟩), hr.gb, hr.f0, hr.f1, (fun _ => rfl), hr.f3, hr.f4, hr.f5, hr.f6, hr.f7⟩⟩ (if_pos rfl) (fun j hj => if_neg hj)
      · revert hK
        obtain rfl := Option.some.inj ho
        clear hdep ho
        have hgb := hr.gb
        intro hK
        rw [if_pos (by rfl)]
        try simp only [Act.put, List.setIfInBounds_toArray, List.set_cons_zero, List.set_cons_succ]
        go_simp
        exact hK.out _ _ (fun j => if j = 3 then true else ℓ j) ⟨x34, x35, x36, (.int .i64 c), x38, x39, x40, x7, (by first | (simp only [Act.put, List.setIfInBounds_toArray, List.set_cons_zero, List.set_cons_succ]; done) | (simp only [Act.put, List.setIfInBounds_toArray, List.set_cons_zero, List.set_cons_succ]; rfl)), ⟨(fun g => ⟨(hr.cs g).1, (hr.cs g).2.1, (hr.cs g).2.2.1, rfl, (hr.cs g).2.2.2.2.1, (hr.cs g).2.2.2.2.2.1, (hr.cs g).2.2.2.2.2.2.1, (hr.cs g).2.2.2.2.2.2.2.1, trivial⟩), hr.gb, hr.f0, hr.f1, hr.f2, (fun _ => rfl), hr.f4, hr.f5, hr.f6, hr.f7⟩⟩ (if_pos rfl) (fun j hj => if_neg hj)
      · revert hK
        obtain rfl := Option.some.inj ho
        have g2 : ℓ 2 = true := hdep { on := 2, ground := Ground.data } (by simp) rfl
        have g3 : ℓ 3 = true := hdep { on := 3, ground := Ground.data } (by simp) rfl
        clear hdep ho
        have hl : ℓ 8 = false := by
          cases h7 : ℓ 8
          · rfl
          · have := (hr.cs h7).2.2.2.2.1; rw [this] at hL; cases hL
        have hgb := hr.gb
        obtain rfl := hr.f2 g2
        obtain rfl := hr.f3 g3
        intro hK
        rw [if_pos (by rfl)]
        try simp only [Act.put, List.setIfInBounds_toArray, List.set_cons_zero, List.set_cons_succ]
        go_simp
        refine Calls.mono (HSA.out _ hgb) ?_
        rintro e w9 ⟨rfl, hb9⟩
        have hr9 := hr.below hb9
        exact hK.out _ _ (fun j => if j = 4 then true else ℓ j) ⟨x34, x35, (tbV t a), (.int .i64 c), (.int .i64 (i : Int)), x39, x40, x7, (by first | (simp only [Act.put, List.setIfInBounds_toArray, List.set_cons_zero, List.set_cons_succ]; done) | (simp only [Act.put, List.setIfInBounds_toArray, List.set_cons_zero, List.set_cons_succ]; rfl)), ⟨(fun g => ⟨(hr9.cs g).1, (hr9.cs g).2.1, (hr9.cs g).2.2.1, (hr9.cs g).2.2.2.1, rfl, (hr9.cs g).2.2.2.2.2.1, (hr9.cs g).2.2.2.2.2.2.1, (hr9.cs g).2.2.2.2.2.2.2.1, trivial⟩), hr9.gb, hr9.f0, hr9.f1, hr9.f2, hr9.f3, (fun _ => rfl), hr9.f5, hr9.f6, hr9.f7⟩⟩ (if_pos rfl) (fun j hj => if_neg hj)
      · revert hK
        obtain rfl := Option.some.inj ho
        have g1 : ℓ 1 = true := hdep { on := 1, ground := Ground.data } (by simp) rfl
        have g4 : ℓ 4 = true := hdep { on := 4, ground := Ground.data } (by simp) rfl
        clear hdep ho
        have hgb := hr.gb
        obtain rfl := hr.f1 g1
        obtain rfl := hr.f4 g4
        intro hK
        rw [if_pos (by rfl)]
        try simp only [Act.put, List.setIfInBounds_toArray, List.set_cons_zero, List.set_cons_succ]
        have hin := HIN.out
        go_simp
        exact hK.out _ _ (fun j => if j = 5 then true else ℓ j) ⟨x34, (.slice (some ⟨b1, o1, none⟩) n nc), x36, x37, (.int .i64 (i : Int)), (.pointer (some ⟨b1, o1 + i * 3, none⟩)), x40, x7, (by first | (simp only [Act.put, List.setIfInBounds_toArray, List.set_cons_zero, List.set_cons_succ]; done) | (simp only [Act.put, List.setIfInBounds_toArray, List.set_cons_zero, List.set_cons_succ]; rfl)), ⟨(fun g => ⟨(hr.cs g).1, (hr.cs g).2.1, (hr.cs g).2.2.1, (hr.cs g).2.2.2.1, (hr.cs g).2.2.2.2.1, rfl, (hr.cs g).2.2.2.2.2.2.1, (hr.cs g).2.2.2.2.2.2.2.1, trivial⟩), hr.gb, hr.f0, hr.f1, hr.f2, hr.f3, hr.f4, (fun _ => rfl), hr.f6, hr.f7⟩⟩ (if_pos rfl) (fun j hj => if_neg hj)
      · revert hK
        obtain rfl := Option.some.inj ho
        have g5 : ℓ 5 = true := hdep { on := 5, ground := Ground.data } (by simp) rfl
        clear hdep ho
        have hgb := hr.gb
        obtain rfl := hr.f5 g5
        intro hK
        rw [if_pos (by rfl)]
        try simp only [Act.put, List.setIfInBounds_toArray, List.set_cons_zero, List.set_cons_succ]
        have hgb := hr.gb
        obtain ⟨cc0, cc1, cc2⟩ := HCE.out _ hgb
        go_simp
        exact hK.out _ _ (fun j => if j = 6 then true else ℓ j) ⟨x34, x35, x36, x37, x38, (.pointer (some ⟨b1, o1 + i * 3, none⟩)), (.agg #[.int .i64 y1, .int .i64 y2, .int .i64 y3]), x7, (by first | (simp only [Act.put, List.setIfInBounds_toArray, List.set_cons_zero, List.set_cons_succ]; done) | (simp only [Act.put, List.setIfInBounds_toArray, List.set_cons_zero, List.set_cons_succ]; rfl)), ⟨(fun g => ⟨(hr.cs g).1, (hr.cs g).2.1, (hr.cs g).2.2.1, (hr.cs g).2.2.2.1, (hr.cs g).2.2.2.2.1, (hr.cs g).2.2.2.2.2.1, rfl, (hr.cs g).2.2.2.2.2.2.2.1, trivial⟩), hr.gb, hr.f0, hr.f1, hr.f2, hr.f3, hr.f4, hr.f5, (fun _ => rfl), hr.f7⟩⟩ (if_pos rfl) (fun j hj => if_neg hj)
      · revert hK
        obtain rfl := Option.some.inj ho
        clear hdep ho
        have hl : ℓ 8 = false := by
          cases h7 : ℓ 8
          · rfl
          · have := (hr.cs h7).2.2.2.2.2.2.2.1; rw [this] at hL; cases hL
        have hgb := hr.gb
        intro hK
        rw [if_pos (by rfl)]
        try simp only [Act.put, List.setIfInBounds_toArray, List.set_cons_zero, List.set_cons_succ]
        have hr9 := hr.below (w9 := w'.alloc (.cells (#[.int .i64 0, .int .i64 0, .int .i64 0]) 98)) ((Below.refl _ _).alloc (Nat.le_refl _) _)
        go_simp
        exact hK.out _ _ (fun j => if j = 7 then true else ℓ j) ⟨x34, x35, x36, x37, x38, x39, x40, (.pointer (some ⟨w'.heap.size, 0, none⟩)), (by first | (simp only [Act.put, List.setIfInBounds_toArray, List.set_cons_zero, List.set_cons_succ]; done) | (simp only [Act.put, List.setIfInBounds_toArray, List.set_cons_zero, List.set_cons_succ]; rfl)), ⟨(fun g => ⟨(hr9.cs g).1, (hr9.cs g).2.1, (hr9.cs g).2.2.1, (hr9.cs g).2.2.2.1, (hr9.cs g).2.2.2.2.1, (hr9.cs g).2.2.2.2.2.1, (hr9.cs g).2.2.2.2.2.2.1, rfl, trivial⟩), hr9.gb, hr9.f0, hr9.f1, hr9.f2, hr9.f3, hr9.f4, hr9.f5, hr9.f6, (fun _ => ⟨w'.heap.size, rfl, hgb.size, (fun _ => new_row w' _ _ _ rfl), (fun g => by have g' : ℓ 8 = true := g; rw [hl] at g'; cases g')⟩)⟩⟩ (if_pos rfl) (fun j hj => if_neg hj)
      · replace ho : some ({ dst := none, op := .store 98 (.tmp 7) (.tmp 40), type := 0, pos := "l24_audit.go:28", after := #[{ on := 7, ground := Ground.data }, { on := 6, ground := Ground.data }, { on := 4, ground := Ground.chain }, { on := 0, ground := Ground.phase }, { on := 1, ground := Ground.phase }, { on := 2, ground := Ground.phase }, { on := 3, ground := Ground.phase }, { on := 4, ground := Ground.phase }, { on := 5, ground := Ground.phase }, { on := 6, ground := Ground.phase }, { on := 7, ground := Ground.phase }], guard := none } : Oper) = some o := ho
        revert hK
        obtain rfl := Option.some.inj ho
        have g7 : ℓ 7 = true := hdep { on := 7, ground := Ground.data } (by simp) rfl
        have g6 : ℓ 6 = true := hdep { on := 6, ground := Ground.data } (by simp) rfl
        have g0 : ℓ 0 = true := hdep { on := 0, ground := Ground.phase } (by simp) rfl
        have g1 : ℓ 1 = true := hdep { on := 1, ground := Ground.phase } (by simp) rfl
        have g2 : ℓ 2 = true := hdep { on := 2, ground := Ground.phase } (by simp) rfl
        have g3 : ℓ 3 = true := hdep { on := 3, ground := Ground.phase } (by simp) rfl
        have g4 : ℓ 4 = true := hdep { on := 4, ground := Ground.phase } (by simp) rfl
        have g5 : ℓ 5 = true := hdep { on := 5, ground := Ground.phase } (by simp) rfl
        clear hdep ho
        have hgb := hr.gb
        obtain ⟨N, rfl, hN, hrow, _⟩ := hr.f7 g7
        obtain rfl := hr.f6 g6
        intro hK
        rw [if_pos (by rfl)]
        try simp only [Act.put, List.setIfInBounds_toArray, List.set_cons_zero, List.set_cons_succ]
        refine wp_store_row (P := Tryz.prog) 98 (.tmp 7) (.tmp 40) rfl N (#[.int .i64 y1, .int .i64 y2, .int .i64 y3]) rfl rfl 98 (#[.int .i64 0, .int .i64 0, .int .i64 0]) (hrow hL) (by kernel_rfl) rfl (by simp [Value.oneCell']) ?_
        exact hK.out _ _ (fun j => if j = 8 then true else ℓ j) ⟨x34, x35, x36, x37, x38, x39, (.agg #[.int .i64 y1, .int .i64 y2, .int .i64 y3]), (.pointer (some ⟨N, 0, none⟩)), (by first | (simp only [Act.put, List.setIfInBounds_toArray, List.set_cons_zero, List.set_cons_succ]; done) | (simp only [Act.put, List.setIfInBounds_toArray, List.set_cons_zero, List.set_cons_succ]; rfl)), ⟨(fun _ => ⟨g0, g1, g2, g3, g4, g5, g6, g7, trivial⟩), below_setRow hr.gb hN _, hr.f0, hr.f1, hr.f2, hr.f3, hr.f4, hr.f5, hr.f6, (fun _ => ⟨N, rfl, hN, (fun g => by cases g), fun _ => setRow_heap _ _ _ _ _ _ (hrow hL)⟩)⟩⟩ (if_pos rfl) (fun j hj => if_neg hj)
    · rintro a' w' ℓ ℓ' hℓ hI
      rw [← show ℓ = ℓ' from funext hℓ]
      exact hI
end Go.Proofs.YtphdijkpjjokaaaGreatDoor
