
/-
  Tables and two cycles, drawn for the laws on spans. Conditions: the bytes are bytes, at most 1048576 of them.
-/
import Derived.Test.YtlomcdgfcocmmaaGreatDoorBas
import Derived.Test.YtlomcdgfcocmmaaGreatDoorAnw
namespace Go.Proofs.YtlomcdgfcocmmaaGreatDoor
open Go.ChangeShapes Go.WideShapes Go.ChangeAt Go.RowKit Go.Deep Go.Joins
set_option linter.unusedVariables false

/-- Tables drawn, in their own box, and room for the answer below the cursor. -/
structure PN (w X : World) (B : Nat) (a : Option Addr) (zs : List Int) (cap VB lo : Nat) (T : Tb) (A : Ad) : Prop where
  cu : Cur X B a zs cap
  bw : Below w.heap.size w X
  r0 : RV X w.heap.size (#[.int .i64 0, .int .i64 0, .int .i64 0, .int .i64 0, .int .i64 0, .int .i64 0, .int .i64 0, .int .i64 0, .int .i64 0, .int .i64 0, .int .i64 0, .int .i64 0, .int .i64 0, .int .i64 0, .int .i64 0, .slice none 0 0, .slice none 0 0, .slice none 0 0, .slice none 0 0])
  rv : RV X VB (tbA T A)
  o : OU lo X T A
/-- Where the boxes lie. -/
structure PB (w : World) (B : Nat) (a : Option Addr) (zs : List Int) (VB lo : Nat) (A : Ad) : Prop where
  b : B = w.heap.size + 1
  l : B < lo
  v : B < VB
  n : ∀ k, InL A k → k ≠ VB
  la : ∀ b off, a = some ⟨b, off, none⟩ → 0 < zs.length → b < w.heap.size
theorem PN.turn {w X : World} {B : Nat} {a : Option Addr} {zs : List Int} {cap VB lo : Nat} {T : Tb} {A : Ad} {Y : World} (h : PN w X B a zs cap VB lo T A) (g : PB w B a zs VB lo A) (hc : Cur Y B a zs cap) (ht : Turn B X Y) : PN w Y B a zs cap VB lo T A :=
  ⟨hc, h.bw.trans (ht.below (by have := g.b; omega) h.bw.size), h.r0.turn ht (by have := g.b; omega), h.rv.turn ht (by have := g.v; omega), h.o.keep ht.size (fun k hk => ht.block k (h.o.inl hk).2 (by have := (h.o.inl hk).1; have := g.l; omega))⟩
theorem PN.num {w X : World} {B : Nat} {a : Option Addr} {zs : List Int} {cap VB lo : Nat} {T : Tb} {A : Ad} {T' : Tb} (h : PN w X B a zs cap VB lo T A) (g : PB w B a zs VB lo A) (j : Nat) (v : Value) (e : (tbA T A).setIfInBounds j v = tbA T' A) (h1 : T'.ps = T.ps) (h2 : T'.ds = T.ds) (h3 : T'.cs = T.cs) (h4 : T'.ss = T.ss) : PN w (X.setCell ⟨VB, j, none⟩ v) B a zs cap VB lo T' A :=
  ⟨cur_far h.cu VB j v (by have := g.v; omega) (fun b off e h0 => by have := g.la b off e h0; have := g.v; have := g.b; omega), h.bw.setCell (p := ⟨VB, j, none⟩) (by have := g.v; have := g.b; show w.heap.size ≤ VB; omega) v, h.r0.other (by have := g.v; have := g.b; omega), h.rv.set j v e, (h.o.keep (by simp) (fun k hk => heap_far _ _ _ _ (g.n k hk))).nums h1 h2 h3 h4⟩
theorem PN.alloc {w X : World} {B : Nat} {a : Option Addr} {zs : List Int} {cap VB lo : Nat} {T : Tb} {A : Ad} (h : PN w X B a zs cap VB lo T A) (g : PB w B a zs VB lo A) (o : Obj) : PN w (X.alloc o) B a zs cap VB lo T A := by
  have hb : Below X.heap.size X (X.alloc o) := (Below.refl _ _).alloc (Nat.le_refl _) _
  exact h.turn g (h.cu.below hb) (Turn.of_below hb)
/-- What is drawn. -/
structure DSp (b : Nat) (w' : World) (T : Tb) (A : Ad) : Prop where
  t : TM 0 w' T A
  o : ∃ lo, b ≤ lo ∧ OU lo w' T A
  w : TW T A
  s : TS A
  c1 : A.pn ≤ A.pc
  c2 : A.sn ≤ A.sc
  p : 2 ≤ A.pn ∧ A.pn ≤ 4
theorem ds_fin {w X : World} {B : Nat} {a : Option Addr} {zs : List Int} {cap VB lo : Nat} {T : Tb} {A : Ad} (h9 : PN w X B a zs cap VB lo T A) (gp : PB w B a zs VB lo A) (htw : TW T A) (hts : TS A) (hcp : A.pn ≤ A.pc ∧ A.sn ≤ A.sc) (hp : 2 ≤ A.pn ∧ A.pn ≤ 4) :
    RV X VB (tbA T A) ∧ RV X w.heap.size (#[.int .i64 0, .int .i64 0, .int .i64 0, .int .i64 0, .int .i64 0, .int .i64 0, .int .i64 0, .int .i64 0, .int .i64 0, .int .i64 0, .int .i64 0, .int .i64 0, .int .i64 0, .int .i64 0, .int .i64 0, .slice none 0 0, .slice none 0 0, .slice none 0 0, .slice none 0 0]) ∧ (World.setRow X w.heap.size (tbA T A)).heap[w.heap.size]? = some (.cells (tbA T A) 33 (0, 0)) ∧ DSp w.heap.size (World.setRow X w.heap.size (tbA T A)) T A ∧ Below w.heap.size w (World.setRow X w.heap.size (tbA T A)) := by
  have ho := h9.o.keep (X := World.setRow X w.heap.size (tbA T A)) (by rw [setRow_size]; exact Nat.le_refl _) (fun k hk => setRow_other _ _ _ _ (by have := (h9.o.inl hk).1; have := gp.l; have := gp.b; omega))
  exact ⟨h9.rv, h9.r0, setRow_heap _ _ _ _ _ _ h9.r0, ⟨ho.tm, ⟨lo, by have := gp.l; have := gp.b; omega, ho⟩, htw, hts, hcp.1, hcp.2, hp⟩, below_setRow h9.bw (Nat.le_refl _) _⟩
theorem res_dsp {W : World} {B : Nat} {cs : Array Value} {v u : Value} {tmps : Array Value} (h : W.heap[B]? = some (.cells cs 33 (0, 0))) (hl : cs.size = 19) (ht : tmps[2]? = some (.pointer (some ⟨B, 0, none⟩))) (hq : tmps[3]? = some v) (hr : tmps[4]? = some u) : (results Tryz.f47 tmps).run Tryz.prog W = .ok (.tuple #[.agg cs, v, u]) W := by
  have hld : (loadVar 33 ⟨B, 0, none⟩).run Tryz.prog W = .ok (.agg cs) W := run_loadVar_row (P := Tryz.prog) W B 33 33 cs (0, 0) _ h Tryz.underlying33 rfl (by rw [hl]; kernel_rfl)
  unfold results
  rw [Tryz.results47]
  simp [ht, hq, hr, asAddr, hld]
theorem res_dss {W : World} {B : Nat} {cs : Array Value} {v u : Value} {tmps : Array Value} (h : W.heap[B]? = some (.cells cs 33 (0, 0))) (hl : cs.size = 19) (ht : tmps[2]? = some (.pointer (some ⟨B, 0, none⟩))) (hq : tmps[3]? = some v) (hr : tmps[4]? = some u) : (results Tryz.f20 tmps).run Tryz.prog W = .ok (.tuple #[.agg cs, v, u]) W := by
  have hld : (loadVar 33 ⟨B, 0, none⟩).run Tryz.prog W = .ok (.agg cs) W := run_loadVar_row (P := Tryz.prog) W B 33 33 cs (0, 0) _ h Tryz.underlying33 rfl (by rw [hl]; kernel_rfl)
  unfold results
  rw [Tryz.results20]
  simp [ht, hq, hr, asAddr, hld]
set_option maxRecDepth 40000 in
set_option maxHeartbeats 16000000 in
theorem draw_span (w : World) (a : Option Addr) (zs : List Int) (cap n : Nat) (hs : Seg .u8 w a zs) (hb : ∀ z ∈ zs, (Lit.int .u8 z).wf = true) (hl : zs.length = n) (hn : n ≤ 1048576) :
    Calls Tryz.prog 47 #[.slice a n cap] w fun e w' => ∃ T A f u, e = .returned (.tuple #[tbV T A, .int .i64 f, .int .i64 u]) ∧ DSp w.heap.size w' T A ∧ Below w.heap.size w w' := by
  have HLA : Hid (∀ b off, a = some ⟨b, off, none⟩ → 0 < zs.length → b < w.heap.size) := seg_lt hs
  have HB0 : Hid (Below w.heap.size w (w.alloc (.cells #[.int .i64 0, .int .i64 0, .int .i64 0, .int .i64 0, .int .i64 0, .int .i64 0, .int .i64 0, .int .i64 0, .int .i64 0, .int .i64 0, .int .i64 0, .int .i64 0, .int .i64 0, .int .i64 0, .int .i64 0, .slice none 0 0, .slice none 0 0, .slice none 0 0, .slice none 0 0] 33))) := (Below.refl _ _).alloc (Nat.le_refl _) _
  have HR0 : Hid (RV (w.alloc (.cells #[.int .i64 0, .int .i64 0, .int .i64 0, .int .i64 0, .int .i64 0, .int .i64 0, .int .i64 0, .int .i64 0, .int .i64 0, .int .i64 0, .int .i64 0, .int .i64 0, .int .i64 0, .int .i64 0, .int .i64 0, .slice none 0 0, .slice none 0 0, .slice none 0 0, .slice none 0 0] 33)) w.heap.size #[.int .i64 0, .int .i64 0, .int .i64 0, .int .i64 0, .int .i64 0, .int .i64 0, .int .i64 0, .int .i64 0, .int .i64 0, .int .i64 0, .int .i64 0, .int .i64 0, .int .i64 0, .int .i64 0, .int .i64 0, .slice none 0 0, .slice none 0 0, .slice none 0 0, .slice none 0 0]) := new_row w _ _ _ rfl
  have HN : Hid (Calls Tryz.prog 29 #[.slice a n cap] (w.alloc (.cells #[.int .i64 0, .int .i64 0, .int .i64 0, .int .i64 0, .int .i64 0, .int .i64 0, .int .i64 0, .int .i64 0, .int .i64 0, .int .i64 0, .int .i64 0, .int .i64 0, .int .i64 0, .int .i64 0, .int .i64 0, .slice none 0 0, .slice none 0 0, .slice none 0 0, .slice none 0 0] 33)) fun e w' => e = .returned (.pointer (some ⟨w.heap.size + 1, 0, none⟩)) ∧ Cur w' (w.heap.size + 1) a zs cap ∧ Below (w.heap.size + 1) (w.alloc (.cells #[.int .i64 0, .int .i64 0, .int .i64 0, .int .i64 0, .int .i64 0, .int .i64 0, .int .i64 0, .int .i64 0, .int .i64 0, .int .i64 0, .int .i64 0, .int .i64 0, .int .i64 0, .int .i64 0, .int .i64 0, .slice none 0 0, .slice none 0 0, .slice none 0 0, .slice none 0 0] 33)) w') := by
    have hz : (w.alloc (.cells #[.int .i64 0, .int .i64 0, .int .i64 0, .int .i64 0, .int .i64 0, .int .i64 0, .int .i64 0, .int .i64 0, .int .i64 0, .int .i64 0, .int .i64 0, .int .i64 0, .int .i64 0, .int .i64 0, .int .i64 0, .slice none 0 0, .slice none 0 0, .slice none 0 0, .slice none 0 0] 33)).heap.size = w.heap.size + 1 := by simp
    have h := draw_new (w.alloc (.cells #[.int .i64 0, .int .i64 0, .int .i64 0, .int .i64 0, .int .i64 0, .int .i64 0, .int .i64 0, .int .i64 0, .int .i64 0, .int .i64 0, .int .i64 0, .int .i64 0, .int .i64 0, .int .i64 0, .int .i64 0, .slice none 0 0, .slice none 0 0, .slice none 0 0, .slice none 0 0] 33)) a zs cap (hs.below HB0.out) hb (by omega)
    rw [hl, hz] at h
    exact h
  clear hs hb hl hn
  go_enter Tryz.func47, Tryz.ntmps47
  go_wp2_with fail
  refine Calls.mono HN.out ?_
  rintro e w1 ⟨rfl, hc, hb1⟩
  obtain ⟨B, HB⟩ : ∃ B, Hid (w.heap.size + 1 = B) := ⟨_, rfl⟩
  have HC1 : Hid (Cur w1 B a zs cap) := by show Cur w1 B a zs cap; rw [← HB.out]; exact hc
  have HB1 : Hid (Below w.heap.size w w1) := HB0.out.trans (hb1.mono (Nat.le_succ _))
  have HR1 : Hid (RV w1 w.heap.size #[.int .i64 0, .int .i64 0, .int .i64 0, .int .i64 0, .int .i64 0, .int .i64 0, .int .i64 0, .int .i64 0, .int .i64 0, .int .i64 0, .int .i64 0, .int .i64 0, .int .i64 0, .int .i64 0, .int .i64 0, .slice none 0 0, .slice none 0 0, .slice none 0 0, .slice none 0 0]) := HR0.out.below hb1 (Nat.lt_succ_self _)
  rw [HB.out]
  clear hc hb1 HB0 HR0 HN
  go_wp2_with fail
  refine Calls.mono (draw_any w1 B a zs cap HC1.out) ?_
  rintro e w2 ⟨t, ad, rfl, hda⟩
  have hBs := HC1.out.lt
  have HB2 : Hid (Below w.heap.size w w2) := HB1.out.trans (hda.tu.below (by have := HB.out; omega) HB1.out.size)
  have HR2 : Hid (RV w2 w.heap.size #[.int .i64 0, .int .i64 0, .int .i64 0, .int .i64 0, .int .i64 0, .int .i64 0, .int .i64 0, .int .i64 0, .int .i64 0, .int .i64 0, .int .i64 0, .int .i64 0, .int .i64 0, .int .i64 0, .int .i64 0, .slice none 0 0, .slice none 0 0, .slice none 0 0, .slice none 0 0]) := HR1.out.turn hda.tu (by have := HB.out; omega)
  have hBs2 : B < w2.heap.size := hda.cu.lt
  have HNR : Hid (RV (w2.alloc (.cells #[.int .i64 0, .int .i64 0, .int .i64 0, .int .i64 0, .int .i64 0, .int .i64 0, .int .i64 0, .int .i64 0, .int .i64 0, .int .i64 0, .int .i64 0, .int .i64 0, .int .i64 0, .int .i64 0, .int .i64 0, .slice none 0 0, .slice none 0 0, .slice none 0 0, .slice none 0 0] 33)) w2.heap.size #[.int .i64 0, .int .i64 0, .int .i64 0, .int .i64 0, .int .i64 0, .int .i64 0, .int .i64 0, .int .i64 0, .int .i64 0, .int .i64 0, .int .i64 0, .int .i64 0, .int .i64 0, .int .i64 0, .int .i64 0, .slice none 0 0, .slice none 0 0, .slice none 0 0, .slice none 0 0]) := new_row w2 _ _ _ rfl
  have HPB : Hid (PB w B a zs w2.heap.size (w1.heap.size + 1) ad) := ⟨HB.out.symm, by omega, hBs2, fun k hk => by have := (hda.o.inl hk).2; omega, HLA.out⟩
  have HPN : Hid (PN w ((w2.alloc (.cells #[.int .i64 0, .int .i64 0, .int .i64 0, .int .i64 0, .int .i64 0, .int .i64 0, .int .i64 0, .int .i64 0, .int .i64 0, .int .i64 0, .int .i64 0, .int .i64 0, .int .i64 0, .int .i64 0, .int .i64 0, .slice none 0 0, .slice none 0 0, .slice none 0 0, .slice none 0 0] 33)).setRow w2.heap.size (tbA t ad)) B a zs cap w2.heap.size (w1.heap.size + 1) t ad) := by
    have hb : Below w2.heap.size w2 ((w2.alloc (.cells #[.int .i64 0, .int .i64 0, .int .i64 0, .int .i64 0, .int .i64 0, .int .i64 0, .int .i64 0, .int .i64 0, .int .i64 0, .int .i64 0, .int .i64 0, .int .i64 0, .int .i64 0, .int .i64 0, .int .i64 0, .slice none 0 0, .slice none 0 0, .slice none 0 0, .slice none 0 0] 33)).setRow w2.heap.size (tbA t ad)) := below_setRow ((Below.refl _ _).alloc (Nat.le_refl _) _) (Nat.le_refl _) _
    exact ⟨hda.cu.below hb, HB2.out.trans (hb.mono HB2.out.size), HR2.out.below hb HR2.out.lt, setRow_heap _ _ _ _ _ _ HNR.out, hda.o.keep hb.size (fun k hk => hb.block k (hda.o.inl hk).2)⟩
  have HTW : Hid (TW t ad) := hda.tw
  have HTS : Hid (TS ad) := hda.ts
  have HCP : Hid (ad.pn ≤ ad.pc ∧ ad.sn ≤ ad.sc) := ⟨hda.c1, hda.c2⟩
  have HP2 : Hid (2 ≤ ad.pn ∧ ad.pn ≤ 4) := hda.p2
  have HCU0 : Hid (Cur ((w2.alloc (.cells #[.int .i64 0, .int .i64 0, .int .i64 0, .int .i64 0, .int .i64 0, .int .i64 0, .int .i64 0, .int .i64 0, .int .i64 0, .int .i64 0, .int .i64 0, .int .i64 0, .int .i64 0, .int .i64 0, .int .i64 0, .slice none 0 0, .slice none 0 0, .slice none 0 0, .slice none 0 0] 33)).setRow w2.heap.size (tbA t ad)) B a zs cap) := HPN.out.cu
  have HBW : Hid (B < ((w2.alloc (.cells #[.int .i64 0, .int .i64 0, .int .i64 0, .int .i64 0, .int .i64 0, .int .i64 0, .int .i64 0, .int .i64 0, .int .i64 0, .int .i64 0, .int .i64 0, .int .i64 0, .int .i64 0, .int .i64 0, .int .i64 0, .slice none 0 0, .slice none 0 0, .slice none 0 0, .slice none 0 0] 33)).setRow w2.heap.size (tbA t ad)).heap.size) := HPN.out.cu.lt
  clear hda HB1 HR1 HC1 HB2 HR2 HLA
  go_wp2_with (first | (refine wpList_store_row rfl 33 (.tmp 6) (.tmp 12) rfl w2.heap.size (tbA t ad) rfl rfl 33 (#[.int .i64 0, .int .i64 0, .int .i64 0, .int .i64 0, .int .i64 0, .int .i64 0, .int .i64 0, .int .i64 0, .int .i64 0, .int .i64 0, .int .i64 0, .int .i64 0, .int .i64 0, .int .i64 0, .int .i64 0, .slice none 0 0, .slice none 0 0, .slice none 0 0, .slice none 0 0]) HNR.out (by kernel_rfl) rfl (by simp [Value.oneCell']) ?_) | fail)
  clear HNR
  revert HPB HPN HCU0 HBW
  generalize (w2.alloc (.cells #[.int .i64 0, .int .i64 0, .int .i64 0, .int .i64 0, .int .i64 0, .int .i64 0, .int .i64 0, .int .i64 0, .int .i64 0, .int .i64 0, .int .i64 0, .int .i64 0, .int .i64 0, .int .i64 0, .int .i64 0, .slice none 0 0, .slice none 0 0, .slice none 0 0, .slice none 0 0] 33)).setRow w2.heap.size (tbA t ad) = w3
  generalize w2.heap.size = VB
  generalize w1.heap.size + 1 = lo
  intro HPB HPN HCU0 HBW
  clear hBs hBs2 HCU0 HBW
  refine (draw_below _ _ _ _ _ _ HPN.out.cu (by omega) (by omega)).mono ?_
  rintro e w4 ⟨x, rfl, hx0, hx1, hc, ht⟩
  have HP4 : Hid (PN w w4 B a zs cap VB lo t ad) := HPN.out.turn HPB.out hc ht
  clear HPN hc ht
  go_wp2_with fail
  refine (draw_below _ _ _ _ _ _ HP4.out.cu (by omega) (by omega)).mono ?_
  rintro e w5 ⟨y, rfl, hy0, hy1, hc, ht⟩
  have HP5 : Hid (PN w w5 B a zs cap VB lo t ad) := HP4.out.turn HPB.out hc ht
  clear HP4 hc ht
  obtain ⟨u, HU⟩ : ∃ u, Hid (IntKind.i64.wrap (x + y) = u) := ⟨_, rfl⟩
  have hu := HU.out
  go_wp2_with fail
  refine (draw_below _ _ _ _ _ _ HP5.out.cu (by omega) (by omega)).mono ?_
  rintro e w6 ⟨z, rfl, hz0, hz1, hc, ht⟩
  have HP6 : Hid (PN w w6 B a zs cap VB lo t ad) := HP5.out.turn HPB.out hc ht
  clear HP5 hc ht
  have hcs : z = 0 ∨ z = 1 ∨ 2 ≤ z := by omega
  rcases hcs with rfl | rfl | hge
  · clear hz0 hz1
    have HO : Hid (Own .i64 (w6.alloc (.cells #[.int .i64 (-1), .int .i64 50000, .int .i64 49900] 3)) w6.heap.size [(-1), 50000, 49900]) := own_litD .i64 w6 3 [(-1), 50000, 49900]
    have hBk : B < w6.heap.size := HP6.out.cu.lt
    have HPp : Hid (PN w (w6.alloc (.cells #[.int .i64 (-1), .int .i64 50000, .int .i64 49900] 3)) B a zs cap VB lo t ad) := HP6.out.alloc HPB.out _
    go_wp2_with fail
    refine (draw_pick _ _ _ _ _ _ [(-1), 50000, 49900] HPp.out.cu HO.out (by omega) (by simp) (by simp)).mono ?_
    rintro e w7 ⟨f2, rfl, hyy, hc, ht⟩
    have HP7 : Hid (PN w w7 B a zs cap VB lo t ad) := HPp.out.turn HPB.out hc ht
    clear HO HPp hBk hc ht HP6 hyy
    have HF : Hid _ := ds_fin HP7.out HPB.out HTW.out HTS.out HCP.out HP2.out
    go_wp2_with (first | (refine wpList_load_row rfl 33 (.tmp 6) rfl VB rfl 33 (tbA t ad) (0, 0) _ HF.out.1 Tryz.underlying33 rfl (by kernel_rfl) ?_) | (refine wpList_store_row rfl 33 (.tmp 2) (.tmp 37) rfl w.heap.size (tbA t ad) rfl rfl 33 (#[.int .i64 0, .int .i64 0, .int .i64 0, .int .i64 0, .int .i64 0, .int .i64 0, .int .i64 0, .int .i64 0, .int .i64 0, .int .i64 0, .int .i64 0, .int .i64 0, .int .i64 0, .int .i64 0, .int .i64 0, .slice none 0 0, .slice none 0 0, .slice none 0 0, .slice none 0 0]) HF.out.2.1 (by kernel_rfl) rfl (by simp [Value.oneCell']) ?_) | fail)
    refine bodyPost_ret (v := .tuple #[tbV t ad, .int .i64 f2, .int .i64 u]) (res_dsp HF.out.2.2.1 rfl rfl rfl rfl) rfl ?_
    exact ⟨t, ad, f2, u, rfl, HF.out.2.2.2.1, HF.out.2.2.2.2⟩
  · clear hz0 hz1
    obtain ⟨u1, HU1⟩ : ∃ u, Hid (IntKind.i64.wrap (x + 5000) = u) := ⟨_, rfl⟩
    obtain ⟨u2, HU2⟩ : ∃ u, Hid (IntKind.i64.wrap (u1 + 1) = u) := ⟨_, rfl⟩
    have hu1 := HU1.out
    have hu2 := HU2.out
    have HO : Hid (Own .i64 (w6.alloc (.cells #[.int .i64 x, .int .i64 u1, .int .i64 u2, .int .i64 50000, .int .i64 50001, .int .i64 (-4)] 3)) w6.heap.size [x, u1, u2, 50000, 50001, (-4)]) := own_litD .i64 w6 3 [x, u1, u2, 50000, 50001, (-4)]
    have hBk : B < w6.heap.size := HP6.out.cu.lt
    have HPp : Hid (PN w (w6.alloc (.cells #[.int .i64 x, .int .i64 u1, .int .i64 u2, .int .i64 50000, .int .i64 50001, .int .i64 (-4)] 3)) B a zs cap VB lo t ad) := HP6.out.alloc HPB.out _
    go_wp2_with fail
    refine (draw_pick _ _ _ _ _ _ [x, u1, u2, 50000, 50001, (-4)] HPp.out.cu HO.out (by omega) (by simp) (by simp)).mono ?_
    rintro e w7 ⟨u3, rfl, hyy, hc, ht⟩
    have HP7 : Hid (PN w w7 B a zs cap VB lo t ad) := HPp.out.turn HPB.out hc ht
    clear HO HPp hBk hc ht HP6 hyy
    have HF : Hid _ := ds_fin HP7.out HPB.out HTW.out HTS.out HCP.out HP2.out
    go_wp2_with (first | (refine wpList_load_row rfl 33 (.tmp 6) rfl VB rfl 33 (tbA t ad) (0, 0) _ HF.out.1 Tryz.underlying33 rfl (by kernel_rfl) ?_) | (refine wpList_store_row rfl 33 (.tmp 2) (.tmp 37) rfl w.heap.size (tbA t ad) rfl rfl 33 (#[.int .i64 0, .int .i64 0, .int .i64 0, .int .i64 0, .int .i64 0, .int .i64 0, .int .i64 0, .int .i64 0, .int .i64 0, .int .i64 0, .int .i64 0, .int .i64 0, .int .i64 0, .int .i64 0, .int .i64 0, .slice none 0 0, .slice none 0 0, .slice none 0 0, .slice none 0 0]) HF.out.2.1 (by kernel_rfl) rfl (by simp [Value.oneCell']) ?_) | fail)
    refine bodyPost_ret (v := .tuple #[tbV t ad, .int .i64 x, .int .i64 u3]) (res_dsp HF.out.2.2.1 rfl rfl rfl rfl) rfl ?_
    exact ⟨t, ad, x, u3, rfl, HF.out.2.2.2.1, HF.out.2.2.2.2⟩
  · have hb0 : (z == 0) = false := beq_eq_false_iff_ne.2 (by omega)
    have hb1 : (z == 1) = false := beq_eq_false_iff_ne.2 (by omega)
    have HF : Hid _ := ds_fin HP6.out HPB.out HTW.out HTS.out HCP.out HP2.out
    go_wp2_with (first | (refine wpList_load_row rfl 33 (.tmp 6) rfl VB rfl 33 (tbA t ad) (0, 0) _ HF.out.1 Tryz.underlying33 rfl (by kernel_rfl) ?_) | (refine wpList_store_row rfl 33 (.tmp 2) (.tmp 37) rfl w.heap.size (tbA t ad) rfl rfl 33 (#[.int .i64 0, .int .i64 0, .int .i64 0, .int .i64 0, .int .i64 0, .int .i64 0, .int .i64 0, .int .i64 0, .int .i64 0, .int .i64 0, .int .i64 0, .int .i64 0, .int .i64 0, .int .i64 0, .int .i64 0, .slice none 0 0, .slice none 0 0, .slice none 0 0, .slice none 0 0]) HF.out.2.1 (by kernel_rfl) rfl (by simp [Value.oneCell']) ?_) | fail)
    refine bodyPost_ret (v := .tuple #[tbV t ad, .int .i64 x, .int .i64 u]) (res_dsp HF.out.2.2.1 rfl rfl rfl rfl) rfl ?_
    exact ⟨t, ad, x, u, rfl, HF.out.2.2.2.1, HF.out.2.2.2.2⟩
set_option maxRecDepth 40000 in
set_option maxHeartbeats 8000000 in
theorem draw_spans (w : World) (a : Option Addr) (zs : List Int) (cap n : Nat) (hs : Seg .u8 w a zs) (hb : ∀ z ∈ zs, (Lit.int .u8 z).wf = true) (hl : zs.length = n) (hn : n ≤ 1048576) :
    Calls Tryz.prog 20 #[.slice a n cap] w fun e w' => ∃ T A f u, e = .returned (.tuple #[tbV T A, .int .i64 f, .int .i64 u]) ∧ DSp w.heap.size w' T A ∧ Below w.heap.size w w' := by
  have HB0 : Hid (Below w.heap.size w (w.alloc (.cells #[.int .i64 0, .int .i64 0, .int .i64 0, .int .i64 0, .int .i64 0, .int .i64 0, .int .i64 0, .int .i64 0, .int .i64 0, .int .i64 0, .int .i64 0, .int .i64 0, .int .i64 0, .int .i64 0, .int .i64 0, .slice none 0 0, .slice none 0 0, .slice none 0 0, .slice none 0 0] 33))) := (Below.refl _ _).alloc (Nat.le_refl _) _
  have HR0 : Hid ((w.alloc (.cells #[.int .i64 0, .int .i64 0, .int .i64 0, .int .i64 0, .int .i64 0, .int .i64 0, .int .i64 0, .int .i64 0, .int .i64 0, .int .i64 0, .int .i64 0, .int .i64 0, .int .i64 0, .int .i64 0, .int .i64 0, .slice none 0 0, .slice none 0 0, .slice none 0 0, .slice none 0 0] 33)).heap[w.heap.size]? = some (.cells #[.int .i64 0, .int .i64 0, .int .i64 0, .int .i64 0, .int .i64 0, .int .i64 0, .int .i64 0, .int .i64 0, .int .i64 0, .int .i64 0, .int .i64 0, .int .i64 0, .int .i64 0, .int .i64 0, .int .i64 0, .slice none 0 0, .slice none 0 0, .slice none 0 0, .slice none 0 0] 33 (0, 0))) := new_row w _ _ _ rfl
  have HD : Hid _ := draw_span (w.alloc (.cells #[.int .i64 0, .int .i64 0, .int .i64 0, .int .i64 0, .int .i64 0, .int .i64 0, .int .i64 0, .int .i64 0, .int .i64 0, .int .i64 0, .int .i64 0, .int .i64 0, .int .i64 0, .int .i64 0, .int .i64 0, .slice none 0 0, .slice none 0 0, .slice none 0 0, .slice none 0 0] 33)) a zs cap n (hs.below HB0.out) hb hl hn
  clear hs hb hl hn
  go_enter Tryz.func20, Tryz.ntmps20
  go_wp2_with fail
  refine Calls.mono HD.out ?_
  rintro e w1 ⟨T, A, f, u, rfl, hd, hb1⟩
  have HB1 : Hid (Below w.heap.size w w1) := HB0.out.trans (hb1.mono HB0.out.size)
  have HR1 : Hid (w1.heap[w.heap.size]? = some (.cells #[.int .i64 0, .int .i64 0, .int .i64 0, .int .i64 0, .int .i64 0, .int .i64 0, .int .i64 0, .int .i64 0, .int .i64 0, .int .i64 0, .int .i64 0, .int .i64 0, .int .i64 0, .int .i64 0, .int .i64 0, .slice none 0 0, .slice none 0 0, .slice none 0 0, .slice none 0 0] 33 (0, 0))) := row_below HR0.out hb1
  have hsz : (w.alloc (.cells #[.int .i64 0, .int .i64 0, .int .i64 0, .int .i64 0, .int .i64 0, .int .i64 0, .int .i64 0, .int .i64 0, .int .i64 0, .int .i64 0, .int .i64 0, .int .i64 0, .int .i64 0, .int .i64 0, .int .i64 0, .slice none 0 0, .slice none 0 0, .slice none 0 0, .slice none 0 0] 33)).heap.size = w.heap.size + 1 := by simp
  have HDF : Hid (DSp w.heap.size (w1.setRow w.heap.size (tbA T A)) T A) := by
    obtain ⟨lo, hlo, ho⟩ := hd.o
    rw [hsz] at hlo
    have ho2 := ho.keep (X := w1.setRow w.heap.size (tbA T A)) (by rw [setRow_size]; exact Nat.le_refl _) (fun k hk => setRow_other _ _ _ _ (by have := (ho.inl hk).1; omega))
    exact ⟨ho2.tm, ⟨lo, by omega, ho2⟩, hd.w, hd.s, hd.c1, hd.c2, hd.p⟩
  clear hd hb1 hsz
  go_wp2_with (first | (refine wpList_store_row rfl 33 (.tmp 2) (.tmp 7) rfl w.heap.size (tbA T A) rfl rfl 33 (#[.int .i64 0, .int .i64 0, .int .i64 0, .int .i64 0, .int .i64 0, .int .i64 0, .int .i64 0, .int .i64 0, .int .i64 0, .int .i64 0, .int .i64 0, .int .i64 0, .int .i64 0, .int .i64 0, .int .i64 0, .slice none 0 0, .slice none 0 0, .slice none 0 0, .slice none 0 0]) HR1.out (by kernel_rfl) rfl (by simp [Value.oneCell']) ?_) | fail)
  refine bodyPost_ret (v := .tuple #[tbV T A, .int .i64 f, .int .i64 u]) (res_dss (setRow_heap _ _ _ _ _ _ HR1.out) rfl rfl rfl rfl) rfl ?_
  exact ⟨T, A, f, u, rfl, HDF.out, below_setRow HB1.out (Nat.le_refl _) _⟩
end Go.Proofs.YtlomcdgfcocmmaaGreatDoor
