
/-
  Tables and what partitions need, drawn for the law on plans. Conditions: the bytes are bytes, at most 1048576 of them.
-/
import Derived.Test.YtmgopppgckgglaaGreatDoorBas
import Derived.Test.YtmgopppgckgglaaGreatDoorAnw
namespace Go.Proofs.YtmgopppgckgglaaGreatDoor
open Go.ChangeShapes Go.WideShapes Go.ChangeAt Go.RowKit Go.Deep Go.Joins
set_option linter.unusedVariables false

/-- Tables drawn, in their own box, and room for the answer below the cursor. -/
structure PN (w X : World) (B : Nat) (a : Option Addr) (zs : List Int) (cap VB lo : Nat) (T : Tb) (A : Ad) : Prop where
  cu : Cur X B a zs cap
  bw : Below w.heap.size w X
  r0 : RV X w.heap.size (#[.int .i64 0, .int .i64 0, .int .i64 0, .int .i64 0, .int .i64 0, .int .i64 0, .int .i64 0, .int .i64 0, .int .i64 0, .int .i64 0, .int .i64 0, .int .i64 0, .int .i64 0, .int .i64 0, .int .i64 0, .slice none 0 0, .slice none 0 0, .slice none 0 0, .slice none 0 0])
  rv : RV X VB (tbA T A)
  o : OU lo X T A
/-- Where the boxes lie. -/
structure PB (w : World) (B : Nat) (a : Option Addr) (zs : List Int) (VB lo : Nat) (A : Ad) : Prop where
  b : B = w.heap.size + 1
  l : B < lo
  v : B < VB
  n : ∀ k, InL A k → k ≠ VB
  la : ∀ b off, a = some ⟨b, off, none⟩ → 0 < zs.length → b < w.heap.size
theorem PN.turn {w X : World} {B : Nat} {a : Option Addr} {zs : List Int} {cap VB lo : Nat} {T : Tb} {A : Ad} {Y : World} (h : PN w X B a zs cap VB lo T A) (g : PB w B a zs VB lo A) (hc : Cur Y B a zs cap) (ht : Turn B X Y) : PN w Y B a zs cap VB lo T A :=
  ⟨hc, h.bw.trans (ht.below (by have := g.b; omega) h.bw.size), h.r0.turn ht (by have := g.b; omega), h.rv.turn ht (by have := g.v; omega), h.o.keep ht.size (fun k hk => ht.block k (h.o.inl hk).2 (by have := (h.o.inl hk).1; have := g.l; omega))⟩
theorem PN.num {w X : World} {B : Nat} {a : Option Addr} {zs : List Int} {cap VB lo : Nat} {T : Tb} {A : Ad} {T' : Tb} (h : PN w X B a zs cap VB lo T A) (g : PB w B a zs VB lo A) (j : Nat) (v : Value) (e : (tbA T A).setIfInBounds j v = tbA T' A) (h1 : T'.ps = T.ps) (h2 : T'.ds = T.ds) (h3 : T'.cs = T.cs) (h4 : T'.ss = T.ss) : PN w (X.setCell ⟨VB, j, none⟩ v) B a zs cap VB lo T' A :=
  ⟨cur_far h.cu VB j v (by have := g.v; omega) (fun b off e h0 => by have := g.la b off e h0; have := g.v; have := g.b; omega), h.bw.setCell (p := ⟨VB, j, none⟩) (by have := g.v; have := g.b; show w.heap.size ≤ VB; omega) v, h.r0.other (by have := g.v; have := g.b; omega), h.rv.set j v e, (h.o.keep (by simp) (fun k hk => heap_far _ _ _ _ (g.n k hk))).nums h1 h2 h3 h4⟩
theorem PN.tw {w X : World} {B : Nat} {a : Option Addr} {zs : List Int} {cap VB lo : Nat} {T : Tb} {A : Ad} {Y : World} (h : PN w X B a zs cap VB lo T A) (g : PB w B a zs VB lo A) (hc : Cur Y B a zs cap) (hb : Below w.heap.size w Y) (ht : Tw B B X Y) : PN w Y B a zs cap VB lo T A :=
  ⟨hc, hb, (ht.block _ h.r0.lt (by have := g.b; omega) (by have := g.b; omega)).trans h.r0, (ht.block _ h.rv.lt (by have := g.v; omega) (by have := g.v; omega)).trans h.rv, h.o.keep ht.size (fun k hk => ht.block k (h.o.inl hk).2 (by have := (h.o.inl hk).1; have := g.l; omega) (by have := (h.o.inl hk).1; have := g.l; omega))⟩
/-- A list of numbers that grows behind all that. -/
structure NL (w w4 X : World) (B : Nat) (a : Option Addr) (zs : List Int) (cap L2 : Nat) (vn : Value) (ks : List Int) (k : Nat) : Prop where
  cu : Cur X B a zs cap
  bw : Below w.heap.size w X
  tw : Tw B B w4 X
  kl : ks.length = k
  ow : X.ownsRow L2 3 1 vn k (flr k (inX ks))
/-- Where it begins. -/
structure NB (w w4 : World) (B : Nat) (a : Option Addr) (zs : List Int) (L2 : Nat) : Prop where
  b : B = w.heap.size + 1
  l : B < L2
  e : w4.heap.size = L2
  la : ∀ b off, a = some ⟨b, off, none⟩ → 0 < zs.length → b < w.heap.size
theorem NL.turn {w w4 X Y : World} {B : Nat} {a : Option Addr} {zs : List Int} {cap L2 : Nat} {vn : Value} {ks : List Int} {k : Nat} (h : NL w w4 X B a zs cap L2 vn ks k) (g : NB w w4 B a zs L2) (hc : Cur Y B a zs cap) (ht : Turn B X Y) : NL w w4 Y B a zs cap L2 vn ks k :=
  ⟨hc, h.bw.trans (ht.below (by have := g.b; omega) h.bw.size), h.tw.turn ht (.inl rfl), h.kl, owns_block h.ow fun q hq => ht.block q (h.ow.lt q hq).2 (by have := (h.ow.lt q hq).1; have := g.l; omega)⟩
theorem NL.low {w w4 X Y : World} {B : Nat} {a : Option Addr} {zs : List Int} {cap L2 : Nat} {vn vn' : Value} {ks ks' : List Int} {k k' : Nat} (h : NL w w4 X B a zs cap L2 vn ks k) (g : NB w w4 B a zs L2) (hb : Below L2 X Y) (hk : ks'.length = k') (how : Y.ownsRow L2 3 1 vn' k' (flr k' (inX ks'))) : NL w w4 Y B a zs cap L2 vn' ks' k' :=
  ⟨h.cu.belowC hb g.l (fun b off e h0 => by have := g.la b off e h0; have := g.b; have := g.l; omega), h.bw.trans (hb.mono (by have := g.b; have := g.l; omega)), h.tw.below hb (Nat.le_of_eq g.e), hk, how⟩
theorem NL.alloc {w w4 X : World} {B : Nat} {a : Option Addr} {zs : List Int} {cap L2 : Nat} {vn : Value} {ks : List Int} {k : Nat} (h : NL w w4 X B a zs cap L2 vn ks k) (g : NB w w4 B a zs L2) (o : Obj) : NL w w4 (X.alloc o) B a zs cap L2 vn ks k := by
  have hb : Below X.heap.size X (X.alloc o) := (Below.refl _ _).alloc (Nat.le_refl _) _
  exact h.turn g (h.cu.below hb) (Turn.of_below hb)
theorem inx_push {ks : List Int} {k : Nat} (hl : ks.length = k) (y : Int) : flr (k + 1) (inX (ks ++ [y])) = flr k (inX ks) ++ [.int .i64 y] := by
  rw [flr_succ]
  congr 1
  · exact flr_congr fun i hi => by
      show [Value.int .i64 ((ks ++ [y]).getD i 0)] = [Value.int .i64 (ks.getD i 0)]
      rw [List.getD_eq_getElem?_getD, List.getElem?_append_left (by omega), ← List.getD_eq_getElem?_getD]
  · show [Value.int .i64 ((ks ++ [y]).getD k 0)] = _
    rw [List.getD_eq_getElem?_getD, List.getElem?_append_right (by omega), hl, Nat.sub_self]
    rfl
theorem NL.app {w w4 X Y : World} {B : Nat} {a : Option Addr} {zs : List Int} {cap L2 q c : Nat} {vn : Value} {ks : List Int} {k : Nat} {y : Int} (h : NL w w4 X B a zs cap L2 vn ks k) (g : NB w w4 B a zs L2) (how : Y.ownsRow L2 3 1 (.slice (some ⟨q, 0, none⟩) (k + 1) c) (k + 1) (flr k (inX ks) ++ [.int .i64 y])) (hg : X.grownBy Y vn.ownBlock) : NL w w4 Y B a zs cap L2 (.slice (some ⟨q, 0, none⟩) (k + 1) c) (ks ++ [y]) (k + 1) :=
  h.low g (grown_below hg (fun kk e => (h.ow.lt kk e).1) (by rw [← g.e]; exact h.tw.size)) (by rw [List.length_append, h.kl]; rfl) (by rw [inx_push h.kl]; exact how)
theorem NL.set {w w4 X : World} {B : Nat} {a : Option Addr} {zs : List Int} {cap L2 c : Nat} {na : Option Addr} {ks : List Int} {k : Nat} (h : NL w w4 X B a zs cap L2 (.slice na k c) ks k) (g : NB w w4 B a zs L2) (i : Nat) (hi : i < k) (y : Int) :
    ∃ q, na = some ⟨q, 0, none⟩ ∧ X.cell? ⟨q, i, none⟩ = some (.int .i64 (ks.getD i 0)) ∧ X.frozen? ⟨q, i, none⟩ = false ∧ NL w w4 (X.setCell ⟨q, i, none⟩ (.int .i64 y)) B a zs cap L2 (.slice na k c) (ks.set i y) k := by
  obtain ⟨q, e, h1, h2, h3, h4, h5⟩ := owns_set h.ow (fun _ _ => rfl) i 0 hi (by decide) (.int .i64 y)
  have e1 : i * 1 + 0 = i := by omega
  rw [e1] at h4 h5
  refine ⟨q, e, h4 _ rfl, h3 i, h.low g ((Below.refl _ _).setCell (p := ⟨q, i, none⟩) h1 _) (by rw [List.length_set]; exact h.kl) ?_⟩
  have hx : (fun m => if m = i then (inX ks i).set 0 (.int .i64 y) else inX ks m) = inX (ks.set i y) := funext fun m => by
    show (if m = i then [Value.int .i64 y] else [Value.int .i64 (ks.getD m 0)]) = [Value.int .i64 ((ks.set i y).getD m 0)]
    by_cases em : m = i
    · subst em
      rw [if_pos rfl, List.getD_eq_getElem?_getD, List.getElem?_set, if_pos rfl, if_pos (by have := h.kl; omega)]
      rfl
    · rw [if_neg em, List.getD_eq_getElem?_getD (l := ks.set i y), List.getElem?_set, if_neg (fun e2 => em e2.symm), ← List.getD_eq_getElem?_getD]
  rw [hx] at h5
  exact h5
theorem res_dpl {W : World} {B : Nat} {cs : Array Value} {v : Value} {tmps : Array Value} (h : W.heap[B]? = some (.cells cs 33 (0, 0))) (hl : cs.size = 19) (ht : tmps[2]? = some (.pointer (some ⟨B, 0, none⟩))) (hq : tmps[3]? = some v) : (results Tryz.f8 tmps).run Tryz.prog W = .ok (.tuple #[.agg cs, v]) W := by
  have hld : (loadVar 33 ⟨B, 0, none⟩).run Tryz.prog W = .ok (.agg cs) W := run_loadVar_row (P := Tryz.prog) W B 33 33 cs (0, 0) _ h Tryz.underlying33 rfl (by rw [hl]; kernel_rfl)
  unfold results
  rw [Tryz.results8]
  simp [ht, hq, asAddr, hld]
/-- What is drawn. -/
structure DPl (w' : World) (T : Tb) (A : Ad) (na : Option Addr) (m mc : Nat) (ks : List Int) : Prop where
  c : m ≤ mc
  t : TM 0 w' T A
  w : TW T A
  s : TS A
  c1 : A.pn ≤ A.pc
  c2 : A.sn ≤ A.sc
  n : GSeg 1 w' na m (inX ks)
  l : ks.length = m
  b : m ≤ 1048576
theorem dp_fin {w X : World} {B : Nat} {a : Option Addr} {zs : List Int} {cap VB lo : Nat} {T : Tb} {A : Ad} {w4 : World} {L2 : Nat} {na : Option Addr} {m c : Nat} {ks : List Int} (h9 : PN w X B a zs cap VB lo T A) (gp : PB w B a zs VB lo A) (hn : NL w w4 X B a zs cap L2 (.slice na m c) ks m) (gn : NB w w4 B a zs L2) (htw : TW T A) (hts : TS A) (hcp : A.pn ≤ A.pc ∧ A.sn ≤ A.sc) (hm : m ≤ 1048576) :
    RV X VB (tbA T A) ∧ RV X w.heap.size (#[.int .i64 0, .int .i64 0, .int .i64 0, .int .i64 0, .int .i64 0, .int .i64 0, .int .i64 0, .int .i64 0, .int .i64 0, .int .i64 0, .int .i64 0, .int .i64 0, .int .i64 0, .int .i64 0, .int .i64 0, .slice none 0 0, .slice none 0 0, .slice none 0 0, .slice none 0 0]) ∧ (World.setRow X w.heap.size (tbA T A)).heap[w.heap.size]? = some (.cells (tbA T A) 33 (0, 0)) ∧ DPl (World.setRow X w.heap.size (tbA T A)) T A na m c ks ∧ Below w.heap.size w (World.setRow X w.heap.size (tbA T A)) := by
  have ho := h9.o.keep (X := World.setRow X w.heap.size (tbA T A)) (by rw [setRow_size]; exact Nat.le_refl _) (fun k hk => setRow_other _ _ _ _ (by have := (h9.o.inl hk).1; have := gp.l; have := gp.b; omega))
  have hw := owns_block (w' := World.setRow X w.heap.size (tbA T A)) hn.ow (fun q hq => setRow_other _ _ _ _ (by have := (hn.ow.lt q hq).1; have := gn.l; have := gn.b; omega))
  obtain ⟨a', c', e', hcc, hseg⟩ := owns_seg hw (fun _ _ => rfl)
  cases e'
  exact ⟨h9.rv, h9.r0, setRow_heap _ _ _ _ _ _ h9.r0, ⟨hcc, ho.tm, htw, hts, hcp.1, hcp.2, hseg.seg, hn.kl, hm⟩, below_setRow h9.bw (Nat.le_refl _) _⟩
structure DPn (W0 : World) (B : Nat) (a : Option Addr) (zs : List Int) (cap : Nat) (P : Addr) (VB : Nat) (mj : Int) (w' : World) (b0 b1 b2 b3 b4 b5 b6 : Bool) (x13 x14 x15 x16 x17 x18 : Value) : Prop where
  cl : b6 = true → b0 = true ∧ b1 = true ∧ b2 = true ∧ b3 = true ∧ b4 = true ∧ b5 = true ∧ True
  cu : b6 = false → Cur w' B a zs cap
  tu : b6 = false → Turn B W0 w'
  la : b6 = true → ∃ V, Cur V B a zs cap ∧ Turn B W0 V ∧ w' = V.setCell P x17
  k4 : b4 = true → b1 = true ∧ b3 = true ∧ True
  f0 : b0 = true → x13 = .pointer (some ⟨VB, 14, none⟩)
  f1 : b1 = true → x14 = .int .i64 mj
  f2 : b2 = true → x15 = .pointer (some ⟨B, 0, none⟩)
  f3 : b3 = true → ∃ y : Int, x16 = .int .i64 y ∧ (0 ≤ y ∧ y < 500)
  f4 : b4 = true → ∃ y : Int, x16 = .int .i64 y ∧ x17 = .int .i64 (IntKind.i64.wrap (mj + y))
  f5 : b5 = true → x18 = .pointer (some ⟨VB, 14, none⟩)
set_option maxRecDepth 40000 in
set_option maxHeartbeats 16000000 in
theorem draw_plan (w : World) (a : Option Addr) (zs : List Int) (cap n : Nat) (hs : Seg .u8 w a zs) (hb : ∀ z ∈ zs, (Lit.int .u8 z).wf = true) (hl : zs.length = n) (hn : n ≤ 1048576) :
    Calls Tryz.prog 8 #[.slice a n cap] w fun e w' => ∃ T A na m mc ks, e = .returned (.tuple #[tbV T A, .slice na m mc]) ∧ DPl w' T A na m mc ks ∧ Below w.heap.size w w' := by
  have HLA : Hid (∀ b off, a = some ⟨b, off, none⟩ → 0 < zs.length → b < w.heap.size) := seg_lt hs
  have HB0 : Hid (Below w.heap.size w (w.alloc (.cells #[.int .i64 0, .int .i64 0, .int .i64 0, .int .i64 0, .int .i64 0, .int .i64 0, .int .i64 0, .int .i64 0, .int .i64 0, .int .i64 0, .int .i64 0, .int .i64 0, .int .i64 0, .int .i64 0, .int .i64 0, .slice none 0 0, .slice none 0 0, .slice none 0 0, .slice none 0 0] 33))) := (Below.refl _ _).alloc (Nat.le_refl _) _
  have HR0 : Hid (RV (w.alloc (.cells #[.int .i64 0, .int .i64 0, .int .i64 0, .int .i64 0, .int .i64 0, .int .i64 0, .int .i64 0, .int .i64 0, .int .i64 0, .int .i64 0, .int .i64 0, .int .i64 0, .int .i64 0, .int .i64 0, .int .i64 0, .slice none 0 0, .slice none 0 0, .slice none 0 0, .slice none 0 0] 33)) w.heap.size #[.int .i64 0, .int .i64 0, .int .i64 0, .int .i64 0, .int .i64 0, .int .i64 0, .int .i64 0, .int .i64 0, .int .i64 0, .int .i64 0, .int .i64 0, .int .i64 0, .int .i64 0, .int .i64 0, .int .i64 0, .slice none 0 0, .slice none 0 0, .slice none 0 0, .slice none 0 0]) := new_row w _ _ _ rfl
  have HN : Hid (Calls Tryz.prog 27 #[.slice a n cap] (w.alloc (.cells #[.int .i64 0, .int .i64 0, .int .i64 0, .int .i64 0, .int .i64 0, .int .i64 0, .int .i64 0, .int .i64 0, .int .i64 0, .int .i64 0, .int .i64 0, .int .i64 0, .int .i64 0, .int .i64 0, .int .i64 0, .slice none 0 0, .slice none 0 0, .slice none 0 0, .slice none 0 0] 33)) fun e w' => e = .returned (.pointer (some ⟨w.heap.size + 1, 0, none⟩)) ∧ Cur w' (w.heap.size + 1) a zs cap ∧ Below (w.heap.size + 1) (w.alloc (.cells #[.int .i64 0, .int .i64 0, .int .i64 0, .int .i64 0, .int .i64 0, .int .i64 0, .int .i64 0, .int .i64 0, .int .i64 0, .int .i64 0, .int .i64 0, .int .i64 0, .int .i64 0, .int .i64 0, .int .i64 0, .slice none 0 0, .slice none 0 0, .slice none 0 0, .slice none 0 0] 33)) w') := by
    have hz : (w.alloc (.cells #[.int .i64 0, .int .i64 0, .int .i64 0, .int .i64 0, .int .i64 0, .int .i64 0, .int .i64 0, .int .i64 0, .int .i64 0, .int .i64 0, .int .i64 0, .int .i64 0, .int .i64 0, .int .i64 0, .int .i64 0, .slice none 0 0, .slice none 0 0, .slice none 0 0, .slice none 0 0] 33)).heap.size = w.heap.size + 1 := by simp
    have h := draw_new (w.alloc (.cells #[.int .i64 0, .int .i64 0, .int .i64 0, .int .i64 0, .int .i64 0, .int .i64 0, .int .i64 0, .int .i64 0, .int .i64 0, .int .i64 0, .int .i64 0, .int .i64 0, .int .i64 0, .int .i64 0, .int .i64 0, .slice none 0 0, .slice none 0 0, .slice none 0 0, .slice none 0 0] 33)) a zs cap (hs.below HB0.out) hb (by omega)
    rw [hl, hz] at h
    exact h
  clear hs hb hl hn
  go_enter Tryz.func8, Tryz.ntmps8
  go_wp2_with fail
  refine Calls.mono HN.out ?_
  rintro e w1 ⟨rfl, hc, hb1⟩
  obtain ⟨B, HB⟩ : ∃ B, Hid (w.heap.size + 1 = B) := ⟨_, rfl⟩
  have HC1 : Hid (Cur w1 B a zs cap) := by show Cur w1 B a zs cap; rw [← HB.out]; exact hc
  have HB1 : Hid (Below w.heap.size w w1) := HB0.out.trans (hb1.mono (Nat.le_succ _))
  have HR1 : Hid (RV w1 w.heap.size #[.int .i64 0, .int .i64 0, .int .i64 0, .int .i64 0, .int .i64 0, .int .i64 0, .int .i64 0, .int .i64 0, .int .i64 0, .int .i64 0, .int .i64 0, .int .i64 0, .int .i64 0, .int .i64 0, .int .i64 0, .slice none 0 0, .slice none 0 0, .slice none 0 0, .slice none 0 0]) := HR0.out.below hb1 (Nat.lt_succ_self _)
  rw [HB.out]
  clear hc hb1 HB0 HR0 HN
  go_wp2_with fail
  refine Calls.mono (draw_any w1 B a zs cap HC1.out) ?_
  rintro e w2 ⟨t, ad, rfl, hda⟩
  have hBs := HC1.out.lt
  have HB2 : Hid (Below w.heap.size w w2) := HB1.out.trans (hda.tu.below (by have := HB.out; omega) HB1.out.size)
  have HR2 : Hid (RV w2 w.heap.size #[.int .i64 0, .int .i64 0, .int .i64 0, .int .i64 0, .int .i64 0, .int .i64 0, .int .i64 0, .int .i64 0, .int .i64 0, .int .i64 0, .int .i64 0, .int .i64 0, .int .i64 0, .int .i64 0, .int .i64 0, .slice none 0 0, .slice none 0 0, .slice none 0 0, .slice none 0 0]) := HR1.out.turn hda.tu (by have := HB.out; omega)
  have hBs2 : B < w2.heap.size := hda.cu.lt
  have HNR : Hid (RV (w2.alloc (.cells #[.int .i64 0, .int .i64 0, .int .i64 0, .int .i64 0, .int .i64 0, .int .i64 0, .int .i64 0, .int .i64 0, .int .i64 0, .int .i64 0, .int .i64 0, .int .i64 0, .int .i64 0, .int .i64 0, .int .i64 0, .slice none 0 0, .slice none 0 0, .slice none 0 0, .slice none 0 0] 33)) w2.heap.size #[.int .i64 0, .int .i64 0, .int .i64 0, .int .i64 0, .int .i64 0, .int .i64 0, .int .i64 0, .int .i64 0, .int .i64 0, .int .i64 0, .int .i64 0, .int .i64 0, .int .i64 0, .int .i64 0, .int .i64 0, .slice none 0 0, .slice none 0 0, .slice none 0 0, .slice none 0 0]) := new_row w2 _ _ _ rfl
  have HPB : Hid (PB w B a zs w2.heap.size (w1.heap.size + 1) ad) := ⟨HB.out.symm, by omega, hBs2, fun k hk => by have := (hda.o.inl hk).2; omega, HLA.out⟩
  have HPN : Hid (PN w ((w2.alloc (.cells #[.int .i64 0, .int .i64 0, .int .i64 0, .int .i64 0, .int .i64 0, .int .i64 0, .int .i64 0, .int .i64 0, .int .i64 0, .int .i64 0, .int .i64 0, .int .i64 0, .int .i64 0, .int .i64 0, .int .i64 0, .slice none 0 0, .slice none 0 0, .slice none 0 0, .slice none 0 0] 33)).setRow w2.heap.size (tbA t ad)) B a zs cap w2.heap.size (w1.heap.size + 1) t ad) := by
    have hb : Below w2.heap.size w2 ((w2.alloc (.cells #[.int .i64 0, .int .i64 0, .int .i64 0, .int .i64 0, .int .i64 0, .int .i64 0, .int .i64 0, .int .i64 0, .int .i64 0, .int .i64 0, .int .i64 0, .int .i64 0, .int .i64 0, .int .i64 0, .int .i64 0, .slice none 0 0, .slice none 0 0, .slice none 0 0, .slice none 0 0] 33)).setRow w2.heap.size (tbA t ad)) := below_setRow ((Below.refl _ _).alloc (Nat.le_refl _) _) (Nat.le_refl _) _
    exact ⟨hda.cu.below hb, HB2.out.trans (hb.mono HB2.out.size), HR2.out.below hb HR2.out.lt, setRow_heap _ _ _ _ _ _ HNR.out, hda.o.keep hb.size (fun k hk => hb.block k (hda.o.inl hk).2)⟩
  have HTW : Hid (TW t ad) := hda.tw
  have HTS : Hid (TS ad) := hda.ts
  have HCP : Hid (ad.pn ≤ ad.pc ∧ ad.sn ≤ ad.sc) := ⟨hda.c1, hda.c2⟩
  have HP2 : Hid (2 ≤ ad.pn ∧ ad.pn ≤ 4) := hda.p2
  have HCU0 : Hid (Cur ((w2.alloc (.cells #[.int .i64 0, .int .i64 0, .int .i64 0, .int .i64 0, .int .i64 0, .int .i64 0, .int .i64 0, .int .i64 0, .int .i64 0, .int .i64 0, .int .i64 0, .int .i64 0, .int .i64 0, .int .i64 0, .int .i64 0, .slice none 0 0, .slice none 0 0, .slice none 0 0, .slice none 0 0] 33)).setRow w2.heap.size (tbA t ad)) B a zs cap) := HPN.out.cu
  have HBW : Hid (B < ((w2.alloc (.cells #[.int .i64 0, .int .i64 0, .int .i64 0, .int .i64 0, .int .i64 0, .int .i64 0, .int .i64 0, .int .i64 0, .int .i64 0, .int .i64 0, .int .i64 0, .int .i64 0, .int .i64 0, .int .i64 0, .int .i64 0, .slice none 0 0, .slice none 0 0, .slice none 0 0, .slice none 0 0] 33)).setRow w2.heap.size (tbA t ad)).heap.size) := HPN.out.cu.lt
  obtain ⟨mj, HMJ⟩ : ∃ v, Hid (t.maj = v) := ⟨_, rfl⟩
  clear hda HB1 HR1 HC1 HB2 HR2 HLA
  go_wp2_with (first | (refine wpList_store_row rfl 33 (.tmp 5) (.tmp 12) rfl w2.heap.size (tbA t ad) rfl rfl 33 (#[.int .i64 0, .int .i64 0, .int .i64 0, .int .i64 0, .int .i64 0, .int .i64 0, .int .i64 0, .int .i64 0, .int .i64 0, .int .i64 0, .int .i64 0, .int .i64 0, .int .i64 0, .int .i64 0, .int .i64 0, .slice none 0 0, .slice none 0 0, .slice none 0 0, .slice none 0 0]) HNR.out (by kernel_rfl) rfl (by simp [Value.oneCell']) ?_) | fail)
  clear HNR
  revert HPB HPN HCU0 HBW
  generalize (w2.alloc (.cells #[.int .i64 0, .int .i64 0, .int .i64 0, .int .i64 0, .int .i64 0, .int .i64 0, .int .i64 0, .int .i64 0, .int .i64 0, .int .i64 0, .int .i64 0, .int .i64 0, .int .i64 0, .int .i64 0, .int .i64 0, .slice none 0 0, .slice none 0 0, .slice none 0 0, .slice none 0 0] 33)).setRow w2.heap.size (tbA t ad) = w3
  generalize w2.heap.size = VB
  generalize w1.heap.size + 1 = lo
  intro HPB HPN HCU0 HBW
  clear hBs hBs2
  refine wp_region_inv (by kernel_rfl) (by kernel_rfl) (fun AC ℓ a' w' => ∃ (x13 x14 x15 x16 x17 x18 : Value), a' = ((((((AC.put (some 13) x13).put (some 14) x14).put (some 15) x15).put (some 16) x16).put (some 17) x17).put (some 18) x18) ∧ DPn (w3) B a zs cap (⟨VB, 14, none⟩) VB mj w' (ℓ 0) (ℓ 1) (ℓ 2) (ℓ 3) (ℓ 4) (ℓ 5) (ℓ 6) x13 x14 x15 x16 x17 x18) ?_ ?_ ?_ ?_
  · exact ⟨undef, undef, undef, undef, undef, undef, (by simp only [Act.put, List.setIfInBounds_toArray, List.set_cons_zero, List.set_cons_succ]), ⟨(fun g => by cases g), (fun _ => HCU0.out.drewN 1), (fun _ => (Turn.refl _ _).drewN 1), (fun g => by cases g), (fun g => by cases g), (fun g => by cases g), (fun g => by cases g), (fun g => by cases g), (fun g => by cases g), (fun g => by cases g), (fun g => by cases g)⟩⟩
  · intro ℓ a' w' hI hall
    obtain ⟨x13, x14, x15, x16, x17, x18, rfl, hr⟩ := hI
    have hall' : ∀ i, i < 7 → ℓ i = true := hall
    obtain ⟨V, hcV, htV, rfl⟩ := hr.la (hall' 6 (by decide))
    obtain rfl := hr.f0 (hall' 0 (by decide))
    obtain rfl := hr.f1 (hall' 1 (by decide))
    obtain rfl := hr.f2 (hall' 2 (by decide))
    obtain ⟨yy3, rfl, hyy3⟩ := hr.f3 (hall' 3 (by decide))
    obtain ⟨yf4, ef4, rfl⟩ := hr.f4 (hall' 4 (by decide))
    cases ef4
    obtain rfl := hr.f5 (hall' 5 (by decide))
    clear hr hall hall'
    simp only [Act.put, List.setIfInBounds_toArray, List.set_cons_zero, List.set_cons_succ]
    obtain ⟨mj2, HMJ2⟩ : ∃ v, IntKind.i64.wrap (mj + yy3) = v := ⟨_, rfl⟩
    rw [HMJ2]
    clear HMJ2
    have HP4 : Hid (PN w (V.setCell ⟨VB, 14, none⟩ (.int .i64 (mj2))) B a zs cap VB lo { t with maj := mj2 } ad) := (HPN.out.turn HPB.out hcV htV).num HPB.out 14 _ (by simp) rfl rfl rfl rfl
    clear hcV htV HPN HCU0 HBW hyy3 HMJ
    obtain ⟨T, HT⟩ : ∃ T : Tb, Hid ({ t with maj := mj2 } = T) := ⟨_, rfl⟩
    have HTW' : Hid (TW T ad) := by show TW T ad; rw [← HT.out]; exact HTW.out.nums rfl rfl rfl rfl
    rw [HT.out] at HP4
    clear HTW HT
    revert HP4
    generalize (V.setCell ⟨VB, 14, none⟩ (.int .i64 (mj2))) = w4
    intro HP4
    obtain ⟨L2, HL2⟩ : ∃ L2, Hid (w4.heap.size = L2) := ⟨_, rfl⟩
    have HNB : Hid (NB w w4 B a zs L2) := ⟨HPB.out.b, by rw [← HL2.out]; exact HP4.out.cu.lt, HL2.out, HPB.out.la⟩
    have HN0 : Hid (NL w w4 (w4.alloc (.cells #[] 3)) B a zs cap L2 (.slice (some ⟨w4.heap.size, 0, none⟩) 0 0) [] 0) := by
      have hb : Below w4.heap.size w4 (w4.alloc (.cells #[] 3)) := (Below.refl _ _).alloc (Nat.le_refl _) _
      exact ⟨HP4.out.cu.below hb, HP4.out.bw.trans (hb.mono HP4.out.bw.size), (Tw.refl B B w4).below hb (Nat.le_refl _), rfl, rfl, .inr ⟨w4.heap.size, 0, #[], rfl, Nat.le_of_eq HL2.out.symm, new_row w4 _ _ _ rfl, Nat.le_refl _, Nat.zero_le _, by simp, rfl⟩⟩
    clear HL2
    have HPK : Hid (∀ X, Cur X B a zs cap → Below w.heap.size w X → Tw B B w4 X → PN w X B a zs cap VB lo T ad) := fun X h1 h2 h3 => HP4.out.tw HPB.out h1 h2 h3
    clear HP4
    obtain ⟨iE, hiE⟩ := int_info'
    have HIE : Hid (Tryz.prog.info? 3 = some iE ∧ iE.zero = some (.int .i64 0) ∧ iE.size = 1 ∧ iE.bytes = 8) := hiE
    clear hiE
    go_wp2
    revert HN0
    generalize (w4.alloc (.cells #[] 3)) = w5
    generalize (Value.slice (some ⟨w4.heap.size, 0, none⟩) 0 0) = vn0
    intro HN0
    go_loopw [6, 7] (fun vn vi wr => ∃ (k : Nat) (ks : List Int), k ≤ ad.pn ∧ vi = .int .i64 k ∧ Hid (NL w w4 wr B a zs cap L2 vn ks k)) (fun _ vi _ => ad.pn - (intOf vi).toNat)
    case atStart => exact ⟨0, [], by omega, rfl, HN0.out⟩
    case round =>
      clear HN0
      obtain ⟨k, ks, hk, rfl, HN⟩ := hrel
      have k15 : wr.cell? ⟨VB, 15, none⟩ = some (.slice ad.pa ad.pn ad.pc) := (HPK.out wr HN.out.cu HN.out.bw HN.out.tw).rv.cell 15 rfl
      by_cases hlt : k < ad.pn
      · have hlt' : (k : Int) < (ad.pn : Int) := by omega
        go_wp2_with fail
        refine (draw_below _ _ _ _ _ _ HN.out.cu (by omega) (by omega)).mono ?_
        rintro e w6 ⟨x, rfl, hx0, hx1, hc6, ht6⟩
        have HN6 : Hid (NL w w4 w6 B a zs cap L2 u6 ks k) := HN.out.turn HNB.out hc6 ht6
        clear HN k15 hc6 ht6
        have HO : Hid (Own .i64 (w6.alloc (.cells #[.int .i64 0, .int .i64 1, .int .i64 5, .int .i64 x, .int .i64 40] 3)) w6.heap.size [0, 1, 5, x, 40]) := own_litD .i64 w6 3 [0, 1, 5, x, 40]
        have hBk : B < w6.heap.size := HN6.out.cu.lt
        have HNp : Hid (NL w w4 (w6.alloc (.cells #[.int .i64 0, .int .i64 1, .int .i64 5, .int .i64 x, .int .i64 40] 3)) B a zs cap L2 u6 ks k) := HN6.out.alloc HNB.out _
        go_wp2_with fail
        refine (draw_pick _ _ _ _ _ _ [0, 1, 5, x, 40] HNp.out.cu HO.out (by omega) (by simp) (by simp)).mono ?_
        rintro e w7 ⟨y, rfl, hyy, hc7, ht7⟩
        have HN7 : Hid (NL w w4 w7 B a zs cap L2 u6 ks k) := HNp.out.turn HNB.out hc7 ht7
        clear HO HNp hBk hc7 ht7 HN6 hyy
        have HNe : Hid (NL w w4 (w7.alloc (.cells #[.int .i64 y] 3)) B a zs cap L2 u6 ks k) := HN7.out.alloc HNB.out _
        have HEf : Hid (Bk (w7.alloc (.cells #[.int .i64 y] 3)) w7.heap.size #[.int .i64 y]) := Bk.new _ _ _ _ rfl
        have hbase : L2 ≤ (w7.alloc (.cells #[.int .i64 y] 3)).heap.size := by have h := HNe.out.tw.size; have h2 := HNB.out.e; omega
        have hkb : k ≤ 1048576 := by have := HTS.out.p; omega
        have hown := HNe.out.ow
        go_wp2_with (at_builtin; (refine wpList_append_lies _ rfl (.tmp 27) (.tmp 33) 29 rfl L2 3 iE (.int .i64 0) 1 8 Tryz.underlying29 HIE.out.1 HIE.out.2.1 HIE.out.2.2.1 HIE.out.2.2.2 rfl (by omega) u6 k (flr k (inX ks)) rfl hown ⟨w7.heap.size, 0, none⟩ 1 1 [.int .i64 y] rfl rfl (by simpa using news_of HEf.out) (by simp [Value.oneCell']) (by omega) (by unfold maxLen; omega) (by omega) hbase _ rfl ?_; intro g cap1 wA hown1 hgrow hat hlt1; have HN9 : Hid (NL w w4 wA B a zs cap L2 (.slice (some ⟨g, 0, none⟩) (k + 1) cap1) (ks ++ [y]) (k + 1)) := HNe.out.app HNB.out hown1 hgrow; clear hown1 hgrow hat hlt1 HNe hown hbase))
        go_roundw
        case rel => exact ⟨k + 1, ks ++ [y], by omega, by first | rfl | go_num, HN9.out⟩
        case measure => simp [intOf]; omega
      · obtain rfl : k = ad.pn := by omega
        have hnl : ¬ ((ad.pn : Int) < (ad.pn : Int)) := by omega
        go_wp2_with fail
        refine (draw_below _ _ _ _ _ _ HN.out.cu (by omega) (by omega)).mono ?_
        rintro e w6 ⟨x, rfl, hx0, hx1, hc6, ht6⟩
        have HN6 : Hid (NL w w4 w6 B a zs cap L2 u6 ks ad.pn) := HN.out.turn HNB.out hc6 ht6
        clear HN k15 hc6 ht6 hlt hnl
        obtain ⟨na, nc, hvn, hnc, _⟩ := owns_seg HN6.out.ow (fun _ _ => rfl)
        subst hvn
        have hcs : x = 0 ∨ x = 1 ∨ x = 2 ∨ 3 ≤ x := by omega
        rcases hcs with rfl | rfl | rfl | hge
        · clear hx0 hx1
          have HNe : Hid (NL w w4 (w6.alloc (.cells #[.int .i64 1] 3)) B a zs cap L2 (.slice na ad.pn nc) ks ad.pn) := HN6.out.alloc HNB.out _
          have HEf : Hid (Bk (w6.alloc (.cells #[.int .i64 1] 3)) w6.heap.size #[.int .i64 1]) := Bk.new _ _ _ _ rfl
          have hbase : L2 ≤ (w6.alloc (.cells #[.int .i64 1] 3)).heap.size := by have h := HNe.out.tw.size; have h2 := HNB.out.e; omega
          have hkb : ad.pn ≤ 1048576 := HTS.out.p
          have hown := HNe.out.ow
          go_wp2_with (first | (at_builtin; (refine wpList_append_lies _ rfl (.tmp 39) (.tmp 40) 29 rfl L2 3 iE (.int .i64 0) 1 8 Tryz.underlying29 HIE.out.1 HIE.out.2.1 HIE.out.2.2.1 HIE.out.2.2.2 rfl (by omega) (.slice na ad.pn nc) ad.pn (flr ad.pn (inX ks)) rfl hown ⟨w6.heap.size, 0, none⟩ 1 1 [.int .i64 1] rfl rfl (by simpa using news_of HEf.out) (by simp [Value.oneCell']) (by omega) (by unfold maxLen; omega) (by omega) hbase _ rfl ?_; intro g cap1 wA hown1 hgrow hat hlt1; have HN9 : Hid (NL w w4 wA B a zs cap L2 (.slice (some ⟨g, 0, none⟩) (ad.pn + 1) cap1) (ks ++ [1]) (ad.pn + 1)) := HNe.out.app HNB.out hown1 hgrow; clear hown1 hgrow hat hlt1 HNe hown hbase; have HF : Hid _ := dp_fin (HPK.out _ HN9.out.cu HN9.out.bw HN9.out.tw) HPB.out HN9.out HNB.out HTW'.out HTS.out HCP.out (by have := HP2.out; omega))) | (refine wpList_load_row rfl 33 (.tmp 5) rfl VB rfl 33 (tbA T ad) (0, 0) _ HF.out.1 Tryz.underlying33 rfl (by kernel_rfl) ?_) | (refine wpList_store_row rfl 33 (.tmp 2) (.tmp 60) rfl w.heap.size (tbA T ad) rfl rfl 33 (#[.int .i64 0, .int .i64 0, .int .i64 0, .int .i64 0, .int .i64 0, .int .i64 0, .int .i64 0, .int .i64 0, .int .i64 0, .int .i64 0, .int .i64 0, .int .i64 0, .int .i64 0, .int .i64 0, .int .i64 0, .slice none 0 0, .slice none 0 0, .slice none 0 0, .slice none 0 0]) HF.out.2.1 (by kernel_rfl) rfl (by simp [Value.oneCell']) ?_) | fail)
          refine bodyPost_ret (v := .tuple #[tbV T ad, .slice (some ⟨g, 0, none⟩) (ad.pn + 1) cap1]) (res_dpl HF.out.2.2.1 rfl rfl rfl) rfl ?_
          first | exact ⟨T, ad, (some ⟨g, 0, none⟩), ad.pn + 1, cap1, ks ++ [1], rfl, HF.out.2.2.2.1, HF.out.2.2.2.2⟩ | exact ⟨T, ad, (some ⟨g, 0, none⟩), ad.pn + 1, cap1, rfl, ⟨ks ++ [1], HF.out.2.2.2.1⟩, HF.out.2.2.2.2⟩ | exact ⟨T, ad, (some ⟨g, 0, none⟩), ad.pn + 1, cap1, ⟨rfl, ⟨ks ++ [1], HF.out.2.2.2.1⟩⟩, HF.out.2.2.2.2⟩
        · clear hx0 hx1
          obtain ⟨q, hq, _⟩ := HN6.out.set HNB.out 0 (by have := HP2.out; omega) 0
          subst hq
          have hp0 : 0 < ad.pn := by have := HP2.out; omega
          have hpi : (0 : Int) < (ad.pn : Int) := by omega
          have HO : Hid (Own .i64 (w6.alloc (.cells #[.int .i64 (-1), .int .i64 5000, .int .i64 5001] 3)) w6.heap.size [(-1), 5000, 5001]) := own_litD .i64 w6 3 [(-1), 5000, 5001]
          have hBk : B < w6.heap.size := HN6.out.cu.lt
          have HNp : Hid (NL w w4 (w6.alloc (.cells #[.int .i64 (-1), .int .i64 5000, .int .i64 5001] 3)) B a zs cap L2 (.slice (some ⟨q, 0, none⟩) ad.pn nc) ks ad.pn) := HN6.out.alloc HNB.out _
          go_wp2_with fail
          refine (draw_pick _ _ _ _ _ _ [(-1), 5000, 5001] HNp.out.cu HO.out (by omega) (by simp) (by simp)).mono ?_
          rintro e w7 ⟨y, rfl, hyy, hc7, ht7⟩
          have HN7 : Hid (NL w w4 w7 B a zs cap L2 (.slice (some ⟨q, 0, none⟩) ad.pn nc) ks ad.pn) := HNp.out.turn HNB.out hc7 ht7
          clear HO HNp hBk hc7 ht7 HN6 hyy
          obtain ⟨q', hq', cc, cf, hn9⟩ := HN7.out.set HNB.out 0 hp0 y
          cases hq'
          have HN9 : Hid (NL w w4 (w7.setCell ⟨q, 0, none⟩ (.int .i64 y)) B a zs cap L2 (.slice (some ⟨q, 0, none⟩) ad.pn nc) (ks.set 0 y) ad.pn) := hn9
          clear hn9
          have HF : Hid _ := dp_fin (HPK.out _ HN9.out.cu HN9.out.bw HN9.out.tw) HPB.out HN9.out HNB.out HTW'.out HTS.out HCP.out (by have := HP2.out; omega)
          go_wp2_with (first | (refine wpList_load_row rfl 33 (.tmp 5) rfl VB rfl 33 (tbA T ad) (0, 0) _ HF.out.1 Tryz.underlying33 rfl (by kernel_rfl) ?_) | (refine wpList_store_row rfl 33 (.tmp 2) (.tmp 60) rfl w.heap.size (tbA T ad) rfl rfl 33 (#[.int .i64 0, .int .i64 0, .int .i64 0, .int .i64 0, .int .i64 0, .int .i64 0, .int .i64 0, .int .i64 0, .int .i64 0, .int .i64 0, .int .i64 0, .int .i64 0, .int .i64 0, .int .i64 0, .int .i64 0, .slice none 0 0, .slice none 0 0, .slice none 0 0, .slice none 0 0]) HF.out.2.1 (by kernel_rfl) rfl (by simp [Value.oneCell']) ?_) | fail)
          refine bodyPost_ret (v := .tuple #[tbV T ad, .slice (some ⟨q, 0, none⟩) (ad.pn) nc]) (res_dpl HF.out.2.2.1 rfl rfl rfl) rfl ?_
          first | exact ⟨T, ad, (some ⟨q, 0, none⟩), ad.pn, nc, ks.set 0 y, rfl, HF.out.2.2.2.1, HF.out.2.2.2.2⟩ | exact ⟨T, ad, (some ⟨q, 0, none⟩), ad.pn, nc, rfl, ⟨ks.set 0 y, HF.out.2.2.2.1⟩, HF.out.2.2.2.2⟩ | exact ⟨T, ad, (some ⟨q, 0, none⟩), ad.pn, nc, ⟨rfl, ⟨ks.set 0 y, HF.out.2.2.2.1⟩⟩, HF.out.2.2.2.2⟩
        · clear hx0 hx1
          have hp4 : ad.pn ≤ 4 := HP2.out.2
          obtain ⟨q, hq, _⟩ := HN6.out.set HNB.out 0 (by have := HP2.out; omega) 0
          subst hq
          go_wp2
          go_loopw [8] (fun vi wz => ∃ (i : Nat) (ks2 : List Int), i ≤ ad.pn ∧ vi = .int .i64 i ∧ Hid (NL w w4 wz B a zs cap L2 (.slice (some ⟨q, 0, none⟩) ad.pn nc) ks2 ad.pn)) (fun vi _ => ad.pn - (intOf vi).toNat)
          case atStart => exact ⟨0, ks, by omega, rfl, HN6.out⟩
          case round =>
            clear HN6
            rename World => wz
            obtain ⟨i, ks2, hi, rfl, HN8⟩ := hrel
            by_cases hil : i < ad.pn
            · have hil' : (i : Int) < (ad.pn : Int) := by omega
              obtain ⟨q', hq', cc, cf, hn9⟩ := HN8.out.set HNB.out i hil 0
              cases hq'
              have HN9 : Hid (NL w w4 (wz.setCell ⟨q, i, none⟩ (.int .i64 0)) B a zs cap L2 (.slice (some ⟨q, 0, none⟩) ad.pn nc) (ks2.set i 0) ad.pn) := hn9
              clear hn9
              go_wp2
              go_roundw
              case rel => exact ⟨i + 1, ks2.set i 0, by omega, by first | rfl | go_num, HN9.out⟩
              case measure => simp [intOf]; omega
            · obtain rfl : i = ad.pn := by omega
              have hnl : ¬ ((ad.pn : Int) < (ad.pn : Int)) := by omega
              have HF : Hid _ := dp_fin (HPK.out _ HN8.out.cu HN8.out.bw HN8.out.tw) HPB.out HN8.out HNB.out HTW'.out HTS.out HCP.out (by have := HP2.out; omega)
              go_wp2_with (first | (refine wpList_load_row rfl 33 (.tmp 5) rfl VB rfl 33 (tbA T ad) (0, 0) _ HF.out.1 Tryz.underlying33 rfl (by kernel_rfl) ?_) | (refine wpList_store_row rfl 33 (.tmp 2) (.tmp 60) rfl w.heap.size (tbA T ad) rfl rfl 33 (#[.int .i64 0, .int .i64 0, .int .i64 0, .int .i64 0, .int .i64 0, .int .i64 0, .int .i64 0, .int .i64 0, .int .i64 0, .int .i64 0, .int .i64 0, .int .i64 0, .int .i64 0, .int .i64 0, .int .i64 0, .slice none 0 0, .slice none 0 0, .slice none 0 0, .slice none 0 0]) HF.out.2.1 (by kernel_rfl) rfl (by simp [Value.oneCell']) ?_) | fail)
              refine bodyPost_ret (v := .tuple #[tbV T ad, .slice (some ⟨q, 0, none⟩) (ad.pn) nc]) (res_dpl HF.out.2.2.1 rfl rfl rfl) rfl ?_
              first | exact ⟨T, ad, (some ⟨q, 0, none⟩), ad.pn, nc, ks2, rfl, HF.out.2.2.2.1, HF.out.2.2.2.2⟩ | exact ⟨T, ad, (some ⟨q, 0, none⟩), ad.pn, nc, rfl, ⟨ks2, HF.out.2.2.2.1⟩, HF.out.2.2.2.2⟩ | exact ⟨T, ad, (some ⟨q, 0, none⟩), ad.pn, nc, ⟨rfl, ⟨ks2, HF.out.2.2.2.1⟩⟩, HF.out.2.2.2.2⟩
        · have hb0 : (x == 0) = false := beq_eq_false_iff_ne.2 (by omega)
          have hb1 : (x == 1) = false := beq_eq_false_iff_ne.2 (by omega)
          have hb2 : (x == 2) = false := beq_eq_false_iff_ne.2 (by omega)
          have HF : Hid _ := dp_fin (HPK.out _ HN6.out.cu HN6.out.bw HN6.out.tw) HPB.out HN6.out HNB.out HTW'.out HTS.out HCP.out (by have := HP2.out; omega)
          go_wp2_with (first | (refine wpList_load_row rfl 33 (.tmp 5) rfl VB rfl 33 (tbA T ad) (0, 0) _ HF.out.1 Tryz.underlying33 rfl (by kernel_rfl) ?_) | (refine wpList_store_row rfl 33 (.tmp 2) (.tmp 60) rfl w.heap.size (tbA T ad) rfl rfl 33 (#[.int .i64 0, .int .i64 0, .int .i64 0, .int .i64 0, .int .i64 0, .int .i64 0, .int .i64 0, .int .i64 0, .int .i64 0, .int .i64 0, .int .i64 0, .int .i64 0, .int .i64 0, .int .i64 0, .int .i64 0, .slice none 0 0, .slice none 0 0, .slice none 0 0, .slice none 0 0]) HF.out.2.1 (by kernel_rfl) rfl (by simp [Value.oneCell']) ?_) | fail)
          refine bodyPost_ret (v := .tuple #[tbV T ad, .slice na (ad.pn) nc]) (res_dpl HF.out.2.2.1 rfl rfl rfl) rfl ?_
          first | exact ⟨T, ad, na, ad.pn, nc, ks, rfl, HF.out.2.2.2.1, HF.out.2.2.2.2⟩ | exact ⟨T, ad, na, ad.pn, nc, rfl, ⟨ks, HF.out.2.2.2.1⟩, HF.out.2.2.2.2⟩ | exact ⟨T, ad, na, ad.pn, nc, ⟨rfl, ⟨ks, HF.out.2.2.2.1⟩⟩, HF.out.2.2.2.2⟩
  · intro ℓ a' w' i o hI ho hi hL hdep K hK
    obtain ⟨x13, x14, x15, x16, x17, x18, rfl, hr⟩ := hI
    have hi7 : i < 7 := hi
    have hcs : i = 0 ∨ i = 1 ∨ i = 2 ∨ i = 3 ∨ i = 4 ∨ i = 5 ∨ i = 6 := by omega
    clear hi hi7
    rcases hcs with rfl | rfl | rfl | rfl | rfl | rfl | rfl
    · revert hK
      obtain rfl := Option.some.inj ho
      clear hdep ho
      have hlL : ℓ 6 = false := by
        cases h7 : ℓ 6
        · rfl
        · have := (hr.cl h7).1; rw [this] at hL; cases hL
      have hlG := hlL
      have hc := hr.cu hlG
      have ht := hr.tu hlG
      intro hK
      rw [if_pos (by rfl)]
      try simp only [Act.put, List.setIfInBounds_toArray, List.set_cons_zero, List.set_cons_succ]
      go_simp
      exact hK.out _ _ (fun j => if j = 0 then true else ℓ j) ⟨(.pointer (some ⟨VB, 14, none⟩)), x14, x15, x16, x17, x18, (by simp only [Act.put, List.setIfInBounds_toArray, List.set_cons_zero, List.set_cons_succ]), ⟨(fun g7 => absurd (hlL.symm.trans g7) Bool.false_ne_true), hr.cu, hr.tu, (fun g7 => absurd (hlL.symm.trans g7) Bool.false_ne_true), hr.k4, (fun _ => rfl), hr.f1, hr.f2, hr.f3, hr.f4, hr.f5⟩⟩ (if_pos rfl) (fun j hj => if_neg hj)
    · revert hK
      obtain rfl := Option.some.inj ho
      have g0 : ℓ 0 = true := hdep { on := 0, ground := Ground.data } (by simp) rfl
      clear hdep ho
      have hlL : ℓ 6 = false := by
        cases h7 : ℓ 6
        · rfl
        · have := (hr.cl h7).2.1; rw [this] at hL; cases hL
      have hlG := hlL
      have hc := hr.cu hlG
      have ht := hr.tu hlG
      obtain rfl := hr.f0 g0
      intro hK
      rw [if_pos (by rfl)]
      try simp only [Act.put, List.setIfInBounds_toArray, List.set_cons_zero, List.set_cons_succ]
      have cc := (show w'.cell? ⟨VB, 14, none⟩ = some (.int .i64 mj) from by rw [← HMJ.out]; exact (HPN.out.turn HPB.out hc ht).rv.cell 14 rfl)
      go_simp
      exact hK.out _ _ (fun j => if j = 1 then true else ℓ j) ⟨(.pointer (some ⟨VB, 14, none⟩)), (.int .i64 mj), x15, x16, x17, x18, (by simp only [Act.put, List.setIfInBounds_toArray, List.set_cons_zero, List.set_cons_succ]), ⟨(fun g7 => absurd (hlL.symm.trans g7) Bool.false_ne_true), hr.cu, hr.tu, (fun g7 => absurd (hlL.symm.trans g7) Bool.false_ne_true), (fun g7 => ⟨rfl, (hr.k4 g7).2.1, trivial⟩), hr.f0, (fun _ => rfl), hr.f2, hr.f3, hr.f4, hr.f5⟩⟩ (if_pos rfl) (fun j hj => if_neg hj)
    · revert hK
      obtain rfl := Option.some.inj ho
      clear hdep ho
      have hlL : ℓ 6 = false := by
        cases h7 : ℓ 6
        · rfl
        · have := (hr.cl h7).2.2.1; rw [this] at hL; cases hL
      have hlG := hlL
      have hc := hr.cu hlG
      have ht := hr.tu hlG
      intro hK
      rw [if_pos (by rfl)]
      try simp only [Act.put, List.setIfInBounds_toArray, List.set_cons_zero, List.set_cons_succ]
      go_simp
      exact hK.out _ _ (fun j => if j = 2 then true else ℓ j) ⟨x13, x14, (.pointer (some ⟨B, 0, none⟩)), x16, x17, x18, (by simp only [Act.put, List.setIfInBounds_toArray, List.set_cons_zero, List.set_cons_succ]), ⟨(fun g7 => absurd (hlL.symm.trans g7) Bool.false_ne_true), hr.cu, hr.tu, (fun g7 => absurd (hlL.symm.trans g7) Bool.false_ne_true), hr.k4, hr.f0, hr.f1, (fun _ => rfl), hr.f3, hr.f4, hr.f5⟩⟩ (if_pos rfl) (fun j hj => if_neg hj)
    · revert hK
      obtain rfl := Option.some.inj ho
      have g2 : ℓ 2 = true := hdep { on := 2, ground := Ground.data } (by simp) rfl
      clear hdep ho
      have hlL : ℓ 6 = false := by
        cases h7 : ℓ 6
        · rfl
        · have := (hr.cl h7).2.2.2.1; rw [this] at hL; cases hL
      have hlG := hlL
      have hc := hr.cu hlG
      have ht := hr.tu hlG
      obtain rfl := hr.f2 g2
      intro hK
      rw [if_pos (by rfl)]
      try simp only [Act.put, List.setIfInBounds_toArray, List.set_cons_zero, List.set_cons_succ]
      go_simp
      refine (draw_below w' B a zs cap 500 hc (by omega) (by omega)).mono ?_
      rintro e w9 ⟨y, rfl, hy0, hy1, hc9, ht9⟩
      have hyy := And.intro hy0 hy1
      exact hK.out _ _ (fun j => if j = 3 then true else ℓ j) ⟨x13, x14, (.pointer (some ⟨B, 0, none⟩)), (.int .i64 y), x17, x18, (by simp only [Act.put, List.setIfInBounds_toArray, List.set_cons_zero, List.set_cons_succ]), ⟨(fun g7 => absurd (hlL.symm.trans g7) Bool.false_ne_true), (fun _ => hc9), (fun _ => ht.trans ht9), (fun g7 => absurd (hlL.symm.trans g7) Bool.false_ne_true), (fun g7 => ⟨(hr.k4 g7).1, rfl, trivial⟩), hr.f0, hr.f1, hr.f2, (fun _ => ⟨y, rfl, hyy⟩), (fun g7 => absurd (hL.symm.trans (hr.k4 g7).2.1) Bool.false_ne_true), hr.f5⟩⟩ (if_pos rfl) (fun j hj => if_neg hj)
    · revert hK
      obtain rfl := Option.some.inj ho
      have g1 : ℓ 1 = true := hdep { on := 1, ground := Ground.data } (by simp) rfl
      have g3 : ℓ 3 = true := hdep { on := 3, ground := Ground.data } (by simp) rfl
      clear hdep ho
      have hlL : ℓ 6 = false := by
        cases h7 : ℓ 6
        · rfl
        · have := (hr.cl h7).2.2.2.2.1; rw [this] at hL; cases hL
      have hlG := hlL
      have hc := hr.cu hlG
      have ht := hr.tu hlG
      obtain rfl := hr.f1 g1
      obtain ⟨y, rfl, hyy⟩ := hr.f3 g3
      intro hK
      rw [if_pos (by rfl)]
      try simp only [Act.put, List.setIfInBounds_toArray, List.set_cons_zero, List.set_cons_succ]
      go_simp
      exact hK.out _ _ (fun j => if j = 4 then true else ℓ j) ⟨x13, (.int .i64 mj), x15, (.int .i64 y), (.int .i64 (IntKind.i64.wrap (mj + y))), x18, (by simp only [Act.put, List.setIfInBounds_toArray, List.set_cons_zero, List.set_cons_succ]), ⟨(fun g7 => absurd (hlL.symm.trans g7) Bool.false_ne_true), hr.cu, hr.tu, (fun g7 => absurd (hlL.symm.trans g7) Bool.false_ne_true), (fun _ => ⟨g1, g3, trivial⟩), hr.f0, hr.f1, hr.f2, hr.f3, (fun _ => ⟨y, rfl, rfl⟩), hr.f5⟩⟩ (if_pos rfl) (fun j hj => if_neg hj)
    · revert hK
      obtain rfl := Option.some.inj ho
      have g0 : ℓ 0 = true := hdep { on := 0, ground := Ground.phase } (by simp) rfl
      have g1 : ℓ 1 = true := hdep { on := 1, ground := Ground.phase } (by simp) rfl
      have g2 : ℓ 2 = true := hdep { on := 2, ground := Ground.phase } (by simp) rfl
      have g3 : ℓ 3 = true := hdep { on := 3, ground := Ground.phase } (by simp) rfl
      have g4 : ℓ 4 = true := hdep { on := 4, ground := Ground.phase } (by simp) rfl
      clear hdep ho
      have hlL : ℓ 6 = false := by
        cases h7 : ℓ 6
        · rfl
        · have := (hr.cl h7).2.2.2.2.2.1; rw [this] at hL; cases hL
      have hlG := hlL
      have hc := hr.cu hlG
      have ht := hr.tu hlG
      intro hK
      rw [if_pos (by rfl)]
      try simp only [Act.put, List.setIfInBounds_toArray, List.set_cons_zero, List.set_cons_succ]
      go_simp
      exact hK.out _ _ (fun j => if j = 5 then true else ℓ j) ⟨x13, x14, x15, x16, x17, (.pointer (some ⟨VB, 14, none⟩)), (by simp only [Act.put, List.setIfInBounds_toArray, List.set_cons_zero, List.set_cons_succ]), ⟨(fun g7 => absurd (hlL.symm.trans g7) Bool.false_ne_true), hr.cu, hr.tu, (fun g7 => absurd (hlL.symm.trans g7) Bool.false_ne_true), hr.k4, hr.f0, hr.f1, hr.f2, hr.f3, hr.f4, (fun _ => rfl)⟩⟩ (if_pos rfl) (fun j hj => if_neg hj)
    · revert hK
      obtain rfl := Option.some.inj ho
      have g5 : ℓ 5 = true := hdep { on := 5, ground := Ground.data } (by simp) rfl
      have g4 : ℓ 4 = true := hdep { on := 4, ground := Ground.data } (by simp) rfl
      have g0 : ℓ 0 = true := hdep { on := 0, ground := Ground.phase } (by simp) rfl
      have g1 : ℓ 1 = true := hdep { on := 1, ground := Ground.phase } (by simp) rfl
      have g2 : ℓ 2 = true := hdep { on := 2, ground := Ground.phase } (by simp) rfl
      have g3 : ℓ 3 = true := hdep { on := 3, ground := Ground.phase } (by simp) rfl
      clear hdep ho
      have hc := hr.cu hL
      have ht := hr.tu hL
      obtain rfl := hr.f5 g5
      obtain ⟨y, ey, rfl⟩ := hr.f4 g4
      obtain rfl := ey
      intro hK
      rw [if_pos (by rfl)]
      try simp only [Act.put, List.setIfInBounds_toArray, List.set_cons_zero, List.set_cons_succ]
      have cc := (show w'.cell? ⟨VB, 14, none⟩ = some (.int .i64 mj) from by rw [← HMJ.out]; exact (HPN.out.turn HPB.out hc ht).rv.cell 14 rfl)
      have cf := (HPN.out.turn HPB.out hc ht).rv.free 14
      go_simp
      exact hK.out _ _ (fun j => if j = 6 then true else ℓ j) ⟨x13, x14, x15, (.int .i64 y), (.int .i64 (IntKind.i64.wrap (mj + y))), (.pointer (some ⟨VB, 14, none⟩)), (by simp only [Act.put, List.setIfInBounds_toArray, List.set_cons_zero, List.set_cons_succ]), ⟨(fun _ => ⟨g0, g1, g2, g3, g4, g5, trivial⟩), (fun g => by cases g), (fun g => by cases g), (fun _ => ⟨w', hc, ht, rfl⟩), hr.k4, hr.f0, hr.f1, hr.f2, hr.f3, hr.f4, hr.f5⟩⟩ (if_pos rfl) (fun j hj => if_neg hj)
  · rintro a' w' ℓ ℓ' hℓ hI
    rw [← show ℓ = ℓ' from funext hℓ]
    exact hI
end Go.Proofs.YtmgopppgckgglaaGreatDoor
