
/-
  Tables drawn for a law: as drawn, or with one cell, one element or one list spoilt: rows that are right, in memory of their own. Conditions: the bytes are bytes, at most 1048576 of them.
-/
import Derived.Test.YtlomcdgfcocmmaaGreatDoorBas
import Derived.Test.YtlomcdgfcocmmaaGreatDoorAnv
import Derived.Test.YtlomcdgfcocmmaaGreatDoorDtb
namespace Go.Proofs.YtlomcdgfcocmmaaGreatDoor
open Go.ChangeShapes Go.WideShapes Go.ChangeAt Go.RowKit Go.Deep Go.Joins
set_option linter.unusedVariables false

set_option maxHeartbeats 800000 in
theorem draw_picks (w : World) (B g : Nat) (a : Option Addr) (zs : List Int) (cap : Nat) (ys : List ByteArray) (hc : Cur w B a zs cap) (ho : Bk w g (ys.map Value.string).toArray) (hg : g ≠ B) (h1 : 1 ≤ ys.length) (h2 : ys.length ≤ 1048576) :
    Calls Tryz.prog 77 #[.pointer (some ⟨B, 0, none⟩), .slice (some ⟨g, 0, none⟩) ys.length ys.length] w fun e w' => ∃ x : ByteArray, e = .returned (.string x) ∧ x ∈ ys ∧ Cur w' B a zs cap ∧ Turn B w w' := by
  obtain ⟨n, Hn⟩ : ∃ n, Hid (n = ys.length) := ⟨_, rfl⟩
  have hn1 : 1 ≤ n := by rw [Hn.out]; exact h1
  have hn2 : n ≤ 1048576 := by rw [Hn.out]; exact h2
  rw [← Hn.out]
  clear h1 h2
  go_enter Tryz.func77, Tryz.ntmps77
  go_wp2_with fail
  refine (draw_below _ _ _ _ _ _ hc (by omega) (by omega)).mono ?_
  rintro e w1 ⟨x, rfl, hx0, hx1, hc1, ht1⟩
  obtain ⟨k, rfl⟩ := Int.eq_ofNat_of_zero_le hx0
  have hk : k < n := by omega
  have hky : k < ys.length := by rw [← Hn.out]; exact hk
  have hcl : w1.cell? ⟨g, k, none⟩ = some (.string (ys[k]'hky)) := (ho.turn ht1 hg).cell k _ (by simp [hky])
  have HM : Hid _ := List.getElem_mem hky
  generalize (ys[k]'hky) = y at hcl HM
  go_wp2
  go_ret
  exact ⟨_, rfl, HM.out, hc1, ht1⟩
theorem res_any {W : World} {B : Nat} {cs : Array Value} {tmps : Array Value} (h : W.heap[B]? = some (.cells cs 33 (0, 0))) (hl : cs.size = 19) (ht : tmps[2]? = some (.pointer (some ⟨B, 0, none⟩))) : (results Tryz.f44 tmps).run Tryz.prog W = .ok (.agg cs) W := by
  have hld : (loadVar 33 ⟨B, 0, none⟩).run Tryz.prog W = .ok (.agg cs) W := run_loadVar_row (P := Tryz.prog) W B 33 33 cs (0, 0) _ h Tryz.underlying33 rfl (by rw [hl]; kernel_rfl)
  unfold results
  rw [Tryz.results44]
  simp [ht, asAddr, hld]
/-- Tables that a law draws: rows right, lists owned and apart. -/
structure DA (w w' : World) (B : Nat) (a : Option Addr) (zs : List Int) (cap : Nat) (T : Tb) (A : Ad) : Prop where
  o : OU (w.heap.size + 1) w' T A
  tw : TW T A
  ts : TS A
  c1 : A.pn ≤ A.pc
  c2 : A.sn ≤ A.sc
  p2 : 2 ≤ A.pn ∧ A.pn ≤ 4
  cu : Cur w' B a zs cap
  tu : Turn B w w'

theorem RV.grown9 {W X : World} {V : Nat} {cs : Array Value} {row : Option Nat} (h : RV W V cs) (hg : W.grownBy X row) (hn : row = some V → False) : RV X V cs := (hg.block V h.lt (fun e => hn e.symm)).trans h

/-- A cell of the rows of partitions, of slots, of windows. -/
theorem OU.pat {lo g : Nat} {W : World} {t : Tb} {ad : Ad} (h : OU lo W t ad) (e : ad.pa = some ⟨g, 0, none⟩) (i : Nat) (hi : i < ad.pn) (j : Nat) (hj : j < 5) {u : Value} (hu : (rwL (ad.Y i))[j]? = some u) : W.cell? ⟨g, i * 5 + j, none⟩ = some u := by
  obtain ⟨g', e', _, _, _, h4, _⟩ := owns_set h.pp (fun _ _ => rfl) i j hi hj (.int .i64 0)
  rw [e] at e'
  cases e'
  exact h4 u hu
theorem OU.pab {lo : Nat} {W : World} {t : Tb} {ad : Ad} (h : OU lo W t ad) (hi : 0 < ad.pn) : ∃ g, ad.pa = some ⟨g, 0, none⟩ := by
  obtain ⟨g', e', _⟩ := owns_set h.pp (fun _ _ => rfl) 0 0 hi (by decide) (.int .i64 0)
  exact ⟨g', e'⟩
theorem OU.sat {lo g : Nat} {W : World} {t : Tb} {ad : Ad} (h : OU lo W t ad) (e : ad.sa = some ⟨g, 0, none⟩) (i : Nat) (hi : i < ad.sn) (j : Nat) (hj : j < 3) {u : Value} (hu : (slL (t.ss.getD i sl0))[j]? = some u) : W.cell? ⟨g, i * 3 + j, none⟩ = some u := by
  obtain ⟨g', e', _, _, _, h4, _⟩ := owns_set h.ps (fun _ _ => rfl) i j hi hj (.int .i64 0)
  rw [e] at e'
  cases e'
  exact h4 u hu
theorem OU.sab {lo : Nat} {W : World} {t : Tb} {ad : Ad} (h : OU lo W t ad) (hi : 0 < ad.sn) : ∃ g, ad.sa = some ⟨g, 0, none⟩ := by
  obtain ⟨g', e', _⟩ := owns_set h.ps (fun _ _ => rfl) 0 0 hi (by decide) (.int .i64 0)
  exact ⟨g', e'⟩
theorem OU.wab {lo : Nat} {W : World} {t : Tb} {ad : Ad} (h : OU lo W t ad) (i : Nat) (hi : i < ad.pn) (h0 : 0 < (ad.Y i).wn) : ∃ b off, (ad.Y i).wa = some ⟨b, off, none⟩ := by
  obtain ⟨b, off, e, _⟩ := (h.pw i hi).sg h0
  exact ⟨b, off, e⟩
theorem OU.wat {lo b off : Nat} {W : World} {t : Tb} {ad : Ad} (h : OU lo W t ad) (i : Nat) (hi : i < ad.pn) (e : (ad.Y i).wa = some ⟨b, off, none⟩) (k : Nat) (hk : k < (ad.Y i).wn) (j : Nat) {u : Value} (hu : (wiL ((t.ps.getD i pt0).ws.getD k wi0))[j]? = some u) : W.cell? ⟨b, off + k * 3 + j, none⟩ = some u := by
  obtain ⟨b', off', e', _, _, hc, _⟩ := (h.pw i hi).sg (by omega)
  rw [e] at e'
  cases e'
  exact hc k hk j u hu
theorem OU.pfr {lo g : Nat} {W : World} {t : Tb} {ad : Ad} (h : OU lo W t ad) (e : ad.pa = some ⟨g, 0, none⟩) (hi : 0 < ad.pn) (o : Nat) : W.frozen? ⟨g, o, none⟩ = false := by
  obtain ⟨g', e', _, _, h3, _⟩ := owns_set h.pp (fun _ _ => rfl) 0 0 hi (by decide) (.int .i64 0)
  rw [e] at e'
  cases e'
  exact h3 o
theorem OU.sfr {lo g : Nat} {W : World} {t : Tb} {ad : Ad} (h : OU lo W t ad) (e : ad.sa = some ⟨g, 0, none⟩) (hi : 0 < ad.sn) (o : Nat) : W.frozen? ⟨g, o, none⟩ = false := by
  obtain ⟨g', e', _, _, h3, _⟩ := owns_set h.ps (fun _ _ => rfl) 0 0 hi (by decide) (.int .i64 0)
  rw [e] at e'
  cases e'
  exact h3 o
theorem OU.wfr {lo b off : Nat} {W : World} {t : Tb} {ad : Ad} (h : OU lo W t ad) (h0 : 0 < lo) (i : Nat) (hi : i < ad.pn) (e : (ad.Y i).wa = some ⟨b, off, none⟩) (hk : 0 < (ad.Y i).wn) (o : Nat) : W.frozen? ⟨b, o, none⟩ = false := by
  obtain ⟨b', off', e', _, _, _, hf⟩ := (h.pw i hi).sg hk
  rw [e] at e'
  cases e'
  exact hf h0 o
theorem DT.ws2 {t : Tb} (h : DT t) (i : Nat) (hi : i < t.ps.length) : (t.ps.getD i pt0).ws.length = 2 := by
  obtain ⟨A, hp, _⟩ := h.p
  obtain ⟨x, y, z, e, _, _, _, _, _, _, _, hw, _⟩ := hp.st i hi
  rw [hw]
  rfl
structure D6 (W0 : World) (B : Nat) (a : Option Addr) (zs : List Int) (cap : Nat) (P : Addr) (VB : Nat) (g : Nat) (l : Nat) (ad : Ad) (s1 : Int) (s2 : Int) (w' : World) (b0 b1 b2 b3 b4 b5 b6 b7 b8 b9 b10 b11 b12 b13 b14 b15 : Bool) (x65 x66 x67 x68 x69 x70 x71 x72 x73 x74 x75 x76 x77 x78 x79 : Value) : Prop where
  cl : b15 = true → b0 = true ∧ b1 = true ∧ b2 = true ∧ b3 = true ∧ b4 = true ∧ b5 = true ∧ b6 = true ∧ b7 = true ∧ b8 = true ∧ b9 = true ∧ b10 = true ∧ b11 = true ∧ b12 = true ∧ b13 = true ∧ b14 = true ∧ True
  cu : b15 = false → Cur w' B a zs cap
  tu : b15 = false → Turn B W0 w'
  la : b15 = true → ∃ V, Cur V B a zs cap ∧ Turn B W0 V ∧ w' = V.setCell P x78
  f0 : b0 = true → x65 = .pointer (some ⟨VB, 18, none⟩)
  f1 : b1 = true → x66 = .slice (some ⟨g, 0, none⟩) ad.sn ad.sc
  f2 : b2 = true → x67 = .int .i64 (l : Int)
  f3 : b3 = true → x68 = .pointer (some ⟨g, l * 3, none⟩)
  f4 : b4 = true → x69 = .pointer (some ⟨g, l * 3 + 1, none⟩)
  f5 : b5 = true → x70 = .int .i64 s1
  f6 : b6 = true → x71 = .pointer (some ⟨VB, 18, none⟩)
  f7 : b7 = true → x72 = .slice (some ⟨g, 0, none⟩) ad.sn ad.sc
  f8 : b8 = true → x73 = .int .i64 (l : Int)
  f9 : b9 = true → x74 = .pointer (some ⟨g, l * 3, none⟩)
  f10 : b10 = true → x75 = .pointer (some ⟨g, l * 3 + 2, none⟩)
  f11 : b11 = true → x76 = .int .i64 s2
  f12 : b12 = true → x77 = .int .i64 (IntKind.i64.wrap (s1 + s2))
  f13 : b13 = true → x78 = .int .i64 (IntKind.i64.wrap (IntKind.i64.wrap (s1 + s2) - 1))
  f14 : b14 = true → x79 = .pointer (some ⟨VB, 14, none⟩)
structure D7 (W0 : World) (B : Nat) (a : Option Addr) (zs : List Int) (cap : Nat) (P : Addr) (VB : Nat) (g : Nat) (ad : Ad) (w' : World) (b0 b1 b2 b3 b4 b5 b6 b7 : Bool) (x82 x83 x84 x85 x86 x87 x88 : Value) : Prop where
  cl : b7 = true → b0 = true ∧ b1 = true ∧ b2 = true ∧ b3 = true ∧ b4 = true ∧ b5 = true ∧ b6 = true ∧ True
  cu : b7 = false → Cur w' B a zs cap
  tu : b7 = false → Turn B W0 w'
  la : b7 = true → ∃ V, Cur V B a zs cap ∧ Turn B W0 V ∧ w' = V.setCell P x86
  k6 : b6 = true → b5 = true ∧ True
  f0 : b0 = true → x82 = .pointer (some ⟨VB, 15, none⟩)
  f1 : b1 = true → x83 = .slice (some ⟨g, 0, none⟩) ad.pn ad.pc
  f2 : b2 = true → x84 = .pointer (some ⟨B, 0, none⟩)
  f3 : b3 = true → b7 = false → ∃ g, x85 = .slice (some ⟨g, 0, none⟩) 4 4 ∧ W0.heap.size ≤ g ∧ Bk w' g #[.string ⟨#[98, 101, 116, 97]⟩, .string ⟨#[]⟩, .string ⟨#[97, 98, 99, 100, 101, 102, 103, 104, 105]⟩, .string ⟨#[65, 108, 112, 104, 97]⟩]
  f4 : b4 = true → ∃ y : ByteArray, x86 = .string y ∧ y ∈ ([⟨#[98, 101, 116, 97]⟩, ⟨#[]⟩, ⟨#[97, 98, 99, 100, 101, 102, 103, 104, 105]⟩, ⟨#[65, 108, 112, 104, 97]⟩] : List ByteArray)
  f5 : b5 = true → x87 = .pointer (some ⟨g, 0, none⟩)
  f6 : b6 = true → x88 = .pointer (some ⟨g, 0, none⟩)
structure D8 (W0 : World) (B : Nat) (a : Option Addr) (zs : List Int) (cap : Nat) (P : Addr) (VB : Nat) (g : Nat) (ad : Ad) (en : Int) (w' : World) (b0 b1 b2 b3 b4 b5 b6 b7 b8 b9 b10 b11 b12 b13 : Bool) (x91 x92 x93 x94 x95 x96 x97 x98 x99 x100 x101 x102 x103 : Value) : Prop where
  cl : b13 = true → b0 = true ∧ b1 = true ∧ b2 = true ∧ b3 = true ∧ b4 = true ∧ b5 = true ∧ b6 = true ∧ b7 = true ∧ b8 = true ∧ b9 = true ∧ b10 = true ∧ b11 = true ∧ b12 = true ∧ True
  cu : b13 = false → Cur w' B a zs cap
  tu : b13 = false → Turn B W0 w'
  la : b13 = true → ∃ V, Cur V B a zs cap ∧ Turn B W0 V ∧ w' = V.setCell P x101
  k10 : b10 = true → b6 = true ∧ b9 = true ∧ True
  k12 : b12 = true → b11 = true ∧ True
  f0 : b0 = true → x91 = .pointer (some ⟨VB, 15, none⟩)
  f1 : b1 = true → x92 = .slice (some ⟨g, 0, none⟩) ad.pn ad.pc
  f2 : b2 = true → x93 = .pointer (some ⟨VB, 15, none⟩)
  f3 : b3 = true → x94 = .slice (some ⟨g, 0, none⟩) ad.pn ad.pc
  f4 : b4 = true → x95 = .pointer (some ⟨g, 0, none⟩)
  f5 : b5 = true → x96 = .pointer (some ⟨g, 1, none⟩)
  f6 : b6 = true → x97 = .int .i64 en
  f7 : b7 = true → x98 = .pointer (some ⟨B, 0, none⟩)
  f8 : b8 = true → b13 = false → ∃ g, x99 = .slice (some ⟨g, 0, none⟩) 4 4 ∧ W0.heap.size ≤ g ∧ Own .i64 w' g [1, 128, (-4), 132]
  f9 : b9 = true → ∃ y : Int, x100 = .int .i64 y ∧ y ∈ ([1, 128, (-4), 132] : List Int)
  f10 : b10 = true → ∃ y : Int, x100 = .int .i64 y ∧ x101 = .int .i64 (IntKind.i64.wrap (en + y))
  f11 : b11 = true → x102 = .pointer (some ⟨g, 0, none⟩)
  f12 : b12 = true → x103 = .pointer (some ⟨g, 1, none⟩)
structure D9 (W0 : World) (B : Nat) (a : Option Addr) (zs : List Int) (cap : Nat) (P : Addr) (VB : Nat) (g : Nat) (ad : Ad) (b : Nat) (off : Nat) (bw : Nat) (ow : Nat) (wc0 : Nat) (wc1 : Nat) (e0 : Int) (w' : World) (b0 b1 b2 b3 b4 b5 b6 b7 b8 b9 b10 b11 b12 b13 b14 b15 : Bool) (x106 x107 x108 x109 x110 x111 x112 x113 x114 x115 x116 x117 x118 x119 x120 : Value) : Prop where
  cl : b15 = true → b0 = true ∧ b1 = true ∧ b2 = true ∧ b3 = true ∧ b4 = true ∧ b5 = true ∧ b6 = true ∧ b7 = true ∧ b8 = true ∧ b9 = true ∧ b10 = true ∧ b11 = true ∧ b12 = true ∧ b13 = true ∧ b14 = true ∧ True
  cu : b15 = false → Cur w' B a zs cap
  tu : b15 = false → Turn B W0 w'
  la : b15 = true → ∃ V, Cur V B a zs cap ∧ Turn B W0 V ∧ w' = V.setCell P x118
  k14 : b14 = true → b13 = true ∧ True
  f0 : b0 = true → x106 = .pointer (some ⟨VB, 15, none⟩)
  f1 : b1 = true → x107 = .slice (some ⟨g, 0, none⟩) ad.pn ad.pc
  f2 : b2 = true → x108 = .pointer (some ⟨g, 5, none⟩)
  f3 : b3 = true → x109 = .pointer (some ⟨g, 9, none⟩)
  f4 : b4 = true → x110 = .slice (some ⟨bw, ow, none⟩) 2 wc1
  f5 : b5 = true → x111 = .pointer (some ⟨VB, 15, none⟩)
  f6 : b6 = true → x112 = .slice (some ⟨g, 0, none⟩) ad.pn ad.pc
  f7 : b7 = true → x113 = .pointer (some ⟨g, 0, none⟩)
  f8 : b8 = true → x114 = .pointer (some ⟨g, 4, none⟩)
  f9 : b9 = true → x115 = .slice (some ⟨b, off, none⟩) 2 wc0
  f10 : b10 = true → x116 = .pointer (some ⟨b, off, none⟩)
  f11 : b11 = true → x117 = .pointer (some ⟨b, off, none⟩)
  f12 : b12 = true → x118 = .int .i64 e0
  f13 : b13 = true → x119 = .pointer (some ⟨bw, ow, none⟩)
  f14 : b14 = true → x120 = .pointer (some ⟨bw, ow, none⟩)
structure D14 (W0 : World) (B : Nat) (a : Option Addr) (zs : List Int) (cap : Nat) (P : Addr) (VB : Nat) (g : Nat) (l : Nat) (ad : Ad) (s1 : Int) (s2 : Int) (w' : World) (b0 b1 b2 b3 b4 b5 b6 b7 b8 b9 b10 b11 : Bool) (x164 x165 x166 x167 x168 x169 x170 x171 x172 x173 x174 : Value) : Prop where
  cl : b11 = true → b0 = true ∧ b1 = true ∧ b2 = true ∧ b3 = true ∧ b4 = true ∧ b5 = true ∧ b6 = true ∧ b7 = true ∧ b8 = true ∧ b9 = true ∧ b10 = true ∧ True
  cu : b11 = false → Cur w' B a zs cap
  tu : b11 = false → Turn B W0 w'
  la : b11 = true → ∃ V, Cur V B a zs cap ∧ Turn B W0 V ∧ w' = V.setCell P x172
  k10 : b10 = true → b9 = true ∧ True
  f0 : b0 = true → x164 = .pointer (some ⟨VB, 18, none⟩)
  f1 : b1 = true → x165 = .slice (some ⟨g, 0, none⟩) ad.sn ad.sc
  f2 : b2 = true → x166 = .int .i64 (l : Int)
  f3 : b3 = true → x167 = .pointer (some ⟨B, 0, none⟩)
  f4 : b4 = true → x168 = .pointer (some ⟨VB, 15, none⟩)
  f5 : b5 = true → x169 = .slice ad.pa ad.pn ad.pc
  f6 : b6 = true → x170 = .int .i64 (ad.pn : Int)
  f7 : b7 = true → b11 = false → ∃ g, x171 = .slice (some ⟨g, 0, none⟩) 2 2 ∧ W0.heap.size ≤ g ∧ Own .i64 w' g [(-1), (ad.pn : Int)]
  f8 : b8 = true → ∃ y : Int, x172 = .int .i64 y ∧ y ∈ ([(-1), (ad.pn : Int)] : List Int)
  f9 : b9 = true → x173 = .pointer (some ⟨g, l * 3, none⟩)
  f10 : b10 = true → x174 = .pointer (some ⟨g, l * 3, none⟩)
structure D15 (W0 : World) (B : Nat) (a : Option Addr) (zs : List Int) (cap : Nat) (P : Addr) (VB : Nat) (g : Nat) (l : Nat) (ad : Ad) (s1 : Int) (s2 : Int) (w' : World) (b0 b1 b2 b3 b4 b5 b6 b7 b8 b9 b10 b11 b12 : Bool) (x177 x178 x179 x180 x181 x182 x183 x184 x185 x186 x187 x188 : Value) : Prop where
  cl : b12 = true → b0 = true ∧ b1 = true ∧ b2 = true ∧ b3 = true ∧ b4 = true ∧ b5 = true ∧ b6 = true ∧ b7 = true ∧ b8 = true ∧ b9 = true ∧ b10 = true ∧ b11 = true ∧ True
  cu : b12 = false → Cur w' B a zs cap
  tu : b12 = false → Turn B W0 w'
  la : b12 = true → ∃ V, Cur V B a zs cap ∧ Turn B W0 V ∧ w' = V.setCell P x186
  k11 : b11 = true → b10 = true ∧ True
  f0 : b0 = true → x177 = .pointer (some ⟨VB, 18, none⟩)
  f1 : b1 = true → x178 = .slice (some ⟨g, 0, none⟩) ad.sn ad.sc
  f2 : b2 = true → x179 = .int .i64 (l : Int)
  f3 : b3 = true → x180 = .pointer (some ⟨VB, 18, none⟩)
  f4 : b4 = true → x181 = .slice (some ⟨g, 0, none⟩) ad.sn ad.sc
  f5 : b5 = true → x182 = .int .i64 (l : Int)
  f6 : b6 = true → x183 = .pointer (some ⟨g, l * 3, none⟩)
  f7 : b7 = true → x184 = .pointer (some ⟨g, l * 3 + 1, none⟩)
  f8 : b8 = true → x185 = .int .i64 s1
  f9 : b9 = true → x186 = .int .i64 (IntKind.i64.wrap (s1 - 9))
  f10 : b10 = true → x187 = .pointer (some ⟨g, l * 3, none⟩)
  f11 : b11 = true → x188 = .pointer (some ⟨g, l * 3 + 1, none⟩)
structure D12 (W0 : World) (B : Nat) (a : Option Addr) (zs : List Int) (cap : Nat) (P : Addr) (vO : Value) (nO lo : Nat) (xO : List Value) (PR : Int → Prop) (VB : Nat) (t : Tb) (ad : Ad) (w' : World) (b0 b1 b2 b3 b4 b5 b6 b7 b8 b9 b10 b11 : Bool) (x137 x138 x139 x140 x141 x142 x143 x144 x145 x146 x147 : Value) : Prop where
  cl : b11 = true → b0 = true ∧ b1 = true ∧ b2 = true ∧ b3 = true ∧ b4 = true ∧ b5 = true ∧ b6 = true ∧ b7 = true ∧ b8 = true ∧ b9 = true ∧ b10 = true ∧ True
  cq : b9 = true → b0 = true ∧ b1 = true ∧ b2 = true ∧ b3 = true ∧ b4 = true ∧ b5 = true ∧ b6 = true ∧ b7 = true ∧ b8 = true ∧ True
  cu : b9 = false → Cur w' B a zs cap
  tu : b9 = false → Turn B W0 w'
  aq : b9 = true → ∃ g c y, x146 = .slice (some ⟨g, 0, none⟩) (nO + 1) c ∧ PR y ∧ (b11 = false → ∃ V, Cur V B a zs cap ∧ Turn B W0 V ∧ True ∧ V.grownBy w' vO.ownBlock ∧ w'.ownsRow lo 3 1 (.slice (some ⟨g, 0, none⟩) (nO + 1) c) (nO + 1) (xO ++ [.int .i64 y]) ∧ (vO.ownBlock = some g ∨ g = V.heap.size))
  la : b11 = true → ∃ g c y V W1, x146 = .slice (some ⟨g, 0, none⟩) (nO + 1) c ∧ PR y ∧ Cur V B a zs cap ∧ Turn B W0 V ∧ True ∧ V.grownBy W1 vO.ownBlock ∧ W1.ownsRow lo 3 1 (.slice (some ⟨g, 0, none⟩) (nO + 1) c) (nO + 1) (xO ++ [.int .i64 y]) ∧ (vO.ownBlock = some g ∨ g = V.heap.size) ∧ w' = W1.setCell P (.slice (some ⟨g, 0, none⟩) (nO + 1) c)
  k1 : b1 = true → b0 = true ∧ True
  k4 : b4 = true → b3 = true ∧ True
  k5 : b5 = true → b4 = true ∧ True
  k6 : b6 = true → b5 = true ∧ True
  k7 : b7 = true → b2 = true ∧ b6 = true ∧ True
  k8 : b8 = true → b7 = true ∧ True
  f0 : b0 = true → x137 = .pointer (some ⟨VB, 16, none⟩)
  f1 : b1 = true → x138 = .slice ad.da ad.dn ad.dc
  f2 : b2 = true → x139 = .pointer (some ⟨B, 0, none⟩)
  f3 : b3 = true → x140 = .pointer (some ⟨VB, 15, none⟩)
  f4 : b4 = true → x141 = .slice ad.pa ad.pn ad.pc
  f5 : b5 = true → x142 = .int .i64 (ad.pn : Int)
  f6 : b6 = true → b9 = false → ∃ g, x143 = .slice (some ⟨g, 0, none⟩) 2 2 ∧ W0.heap.size ≤ g ∧ Own .i64 w' g [(-1), (ad.pn : Int)]
  f7 : b7 = true → ∃ y : Int, x144 = .int .i64 y ∧ y ∈ ([(-1), (ad.pn : Int)] : List Int)
  f8 : b8 = true → b9 = false → ∃ g y, x145 = .slice (some ⟨g, 0, none⟩) 1 1 ∧ W0.heap.size ≤ g ∧ PR y ∧ Bk w' g #[.int .i64 y]
  f10 : b10 = true → x147 = .pointer (some ⟨VB, 16, none⟩)
structure D13 (W0 : World) (B : Nat) (a : Option Addr) (zs : List Int) (cap : Nat) (P : Addr) (vO : Value) (nO lo : Nat) (xO : List Value) (PR : Int → Prop) (VB : Nat) (t : Tb) (ad : Ad) (w' : World) (b0 b1 b2 b3 b4 b5 b6 b7 b8 b9 b10 b11 b12 : Bool) (x150 x151 x152 x153 x154 x155 x156 x157 x158 x159 x160 x161 : Value) : Prop where
  cl : b12 = true → b0 = true ∧ b1 = true ∧ b2 = true ∧ b3 = true ∧ b4 = true ∧ b5 = true ∧ b6 = true ∧ b7 = true ∧ b8 = true ∧ b9 = true ∧ b10 = true ∧ b11 = true ∧ True
  cq : b10 = true → b0 = true ∧ b1 = true ∧ b2 = true ∧ b3 = true ∧ b4 = true ∧ b5 = true ∧ b6 = true ∧ b7 = true ∧ b8 = true ∧ b9 = true ∧ True
  cu : b10 = false → Cur w' B a zs cap
  tu : b10 = false → Turn B W0 w'
  aq : b10 = true → ∃ g c y, x160 = .slice (some ⟨g, 0, none⟩) (nO + 1) c ∧ PR y ∧ (b12 = false → ∃ V, Cur V B a zs cap ∧ Turn B W0 V ∧ True ∧ V.grownBy w' vO.ownBlock ∧ w'.ownsRow lo 76 4 (.slice (some ⟨g, 0, none⟩) (nO + 1) c) (nO + 1) (xO ++ [.int .i64 1, .int .i64 0, .int .i64 y, .int .i64 1]) ∧ (vO.ownBlock = some g ∨ g = V.heap.size))
  la : b12 = true → ∃ g c y V W1, x160 = .slice (some ⟨g, 0, none⟩) (nO + 1) c ∧ PR y ∧ Cur V B a zs cap ∧ Turn B W0 V ∧ True ∧ V.grownBy W1 vO.ownBlock ∧ W1.ownsRow lo 76 4 (.slice (some ⟨g, 0, none⟩) (nO + 1) c) (nO + 1) (xO ++ [.int .i64 1, .int .i64 0, .int .i64 y, .int .i64 1]) ∧ (vO.ownBlock = some g ∨ g = V.heap.size) ∧ w' = W1.setCell P (.slice (some ⟨g, 0, none⟩) (nO + 1) c)
  k1 : b1 = true → b0 = true ∧ True
  k4 : b4 = true → b3 = true ∧ True
  k5 : b5 = true → b4 = true ∧ True
  k6 : b6 = true → b5 = true ∧ True
  k7 : b7 = true → b2 = true ∧ b6 = true ∧ True
  k8 : b8 = true → b7 = true ∧ True
  k9 : b9 = true → b8 = true ∧ True
  f0 : b0 = true → x150 = .pointer (some ⟨VB, 17, none⟩)
  f1 : b1 = true → x151 = .slice ad.ca ad.cn ad.cc
  f2 : b2 = true → x152 = .pointer (some ⟨B, 0, none⟩)
  f3 : b3 = true → x153 = .pointer (some ⟨VB, 15, none⟩)
  f4 : b4 = true → x154 = .slice ad.pa ad.pn ad.pc
  f5 : b5 = true → x155 = .int .i64 (ad.pn : Int)
  f6 : b6 = true → b10 = false → ∃ g, x156 = .slice (some ⟨g, 0, none⟩) 3 3 ∧ W0.heap.size ≤ g ∧ Own .i64 w' g [0, (ad.pn : Int), 1]
  f7 : b7 = true → ∃ y : Int, x157 = .int .i64 y ∧ y ∈ ([0, (ad.pn : Int), 1] : List Int)
  f8 : b8 = true → ∃ y : Int, x157 = .int .i64 y ∧ x158 = .agg #[.int .i64 1, .int .i64 0, .int .i64 y, .int .i64 1]
  f9 : b9 = true → b10 = false → ∃ g y, x159 = .slice (some ⟨g, 0, none⟩) 1 1 ∧ W0.heap.size ≤ g ∧ PR y ∧ Bk w' g #[.int .i64 1, .int .i64 0, .int .i64 y, .int .i64 1]
  f11 : b11 = true → x161 = .pointer (some ⟨VB, 17, none⟩)
set_option maxRecDepth 40000 in
set_option maxHeartbeats 16000000 in
theorem draw_any (w : World) (B : Nat) (a : Option Addr) (zs : List Int) (cap : Nat) (hc : Cur w B a zs cap) :
    Calls Tryz.prog 44 #[.pointer (some ⟨B, 0, none⟩)] w fun e w' => ∃ T A, e = .returned (tbV T A) ∧ DA w w' B a zs cap T A := by
  have hlo : B < w.heap.size := hc.lt
  have HC0 : Hid (CT w (w.alloc (.cells #[.int .i64 0, .int .i64 0, .int .i64 0, .int .i64 0, .int .i64 0, .int .i64 0, .int .i64 0, .int .i64 0, .int .i64 0, .int .i64 0, .int .i64 0, .int .i64 0, .int .i64 0, .int .i64 0, .int .i64 0, .slice none 0 0, .slice none 0 0, .slice none 0 0, .slice none 0 0] 33)) B a zs cap) := (CT.start hc).alloc _
  have HR0 : Hid (RV (w.alloc (.cells #[.int .i64 0, .int .i64 0, .int .i64 0, .int .i64 0, .int .i64 0, .int .i64 0, .int .i64 0, .int .i64 0, .int .i64 0, .int .i64 0, .int .i64 0, .int .i64 0, .int .i64 0, .int .i64 0, .int .i64 0, .slice none 0 0, .slice none 0 0, .slice none 0 0, .slice none 0 0] 33)) w.heap.size #[.int .i64 0, .int .i64 0, .int .i64 0, .int .i64 0, .int .i64 0, .int .i64 0, .int .i64 0, .int .i64 0, .int .i64 0, .int .i64 0, .int .i64 0, .int .i64 0, .int .i64 0, .int .i64 0, .int .i64 0, .slice none 0 0, .slice none 0 0, .slice none 0 0, .slice none 0 0]) := new_row w _ _ _ rfl
  clear hc
  go_enter Tryz.func44, Tryz.ntmps44
  go_wp2_with fail
  refine (draw_below _ _ _ _ _ _ HC0.out.cur (by omega) (by omega)).mono ?_
  rintro e w1 ⟨x, rfl, hx0, hx1, hc, ht⟩
  obtain ⟨m, rfl⟩ : ∃ m : Nat, x = (m : Int) := ⟨x.toNat, by omega⟩
  have HC1 : Hid (CT w w1 B a zs cap) := HC0.out.step hc ht
  have HR1 : Hid (RV w1 w.heap.size #[.int .i64 0, .int .i64 0, .int .i64 0, .int .i64 0, .int .i64 0, .int .i64 0, .int .i64 0, .int .i64 0, .int .i64 0, .int .i64 0, .int .i64 0, .int .i64 0, .int .i64 0, .int .i64 0, .int .i64 0, .slice none 0 0, .slice none 0 0, .slice none 0 0, .slice none 0 0]) := HR0.out.turn ht (by omega)
  have hsz1 : w.heap.size < w1.heap.size := HR1.out.lt
  have HT : Hid _ := draw_tabs w1 B a zs cap (2 + m) hc (by omega)
  have hm2 : ((2 + m : Nat) : Int) = 2 + (m : Int) := by omega
  rw [hm2] at HT
  have hw2 : IntKind.i64.wrap (2 + (m : Int)) = 2 + (m : Int) := by rw [IntKind.wrap_i64]; omega
  clear hc ht HC0 HR0 hm2
  go_wp2_with fail
  refine Calls.mono HT.out ?_
  rintro e w2 ⟨t, ad, rfl, hdt, htm9, htw, hts, hcap, hc2, ht2, hot⟩
  have HC2 : Hid (CT w w2 B a zs cap) := HC1.out.step hc2 ht2
  have HR2 : Hid (RV w2 w.heap.size #[.int .i64 0, .int .i64 0, .int .i64 0, .int .i64 0, .int .i64 0, .int .i64 0, .int .i64 0, .int .i64 0, .int .i64 0, .int .i64 0, .int .i64 0, .int .i64 0, .int .i64 0, .int .i64 0, .int .i64 0, .slice none 0 0, .slice none 0 0, .slice none 0 0, .slice none 0 0]) := HR1.out.turn ht2 (by omega)
  have hsz2 : w.heap.size < w2.heap.size := HR2.out.lt
  have HN : Hid (RV (w2.alloc (.cells #[.int .i64 0, .int .i64 0, .int .i64 0, .int .i64 0, .int .i64 0, .int .i64 0, .int .i64 0, .int .i64 0, .int .i64 0, .int .i64 0, .int .i64 0, .int .i64 0, .int .i64 0, .int .i64 0, .int .i64 0, .slice none 0 0, .slice none 0 0, .slice none 0 0, .slice none 0 0] 33)) w2.heap.size #[.int .i64 0, .int .i64 0, .int .i64 0, .int .i64 0, .int .i64 0, .int .i64 0, .int .i64 0, .int .i64 0, .int .i64 0, .int .i64 0, .int .i64 0, .int .i64 0, .int .i64 0, .int .i64 0, .int .i64 0, .slice none 0 0, .slice none 0 0, .slice none 0 0, .slice none 0 0]) := new_row w2 _ _ _ rfl
  have HOU : Hid (OU (w1.heap.size + 1) w2 t ad) := hot.ou
  have HAB : Hid (AB w B w2.heap.size (w1.heap.size + 1) ad) := ⟨hlo, by omega, hsz2, fun k hk => by have := (HOU.out.inl hk).2; omega⟩
  have HAN : Hid (AN w ((w2.alloc (.cells #[.int .i64 0, .int .i64 0, .int .i64 0, .int .i64 0, .int .i64 0, .int .i64 0, .int .i64 0, .int .i64 0, .int .i64 0, .int .i64 0, .int .i64 0, .int .i64 0, .int .i64 0, .int .i64 0, .int .i64 0, .slice none 0 0, .slice none 0 0, .slice none 0 0, .slice none 0 0] 33)).setRow w2.heap.size (tbA t ad)) B a zs cap w2.heap.size (w1.heap.size + 1) t ad) := by
    have hb : Below w2.heap.size w2 ((w2.alloc (.cells #[.int .i64 0, .int .i64 0, .int .i64 0, .int .i64 0, .int .i64 0, .int .i64 0, .int .i64 0, .int .i64 0, .int .i64 0, .int .i64 0, .int .i64 0, .int .i64 0, .int .i64 0, .int .i64 0, .int .i64 0, .slice none 0 0, .slice none 0 0, .slice none 0 0, .slice none 0 0] 33)).setRow w2.heap.size (tbA t ad)) := below_setRow ((Below.refl _ _).alloc (Nat.le_refl _) _) (Nat.le_refl _) _
    exact ⟨HC2.out.below hb, HR2.out.below hb HR2.out.lt, setRow_heap _ _ _ _ _ _ HN.out, HOU.out.keep hb.size (fun k hk => hb.block k (HOU.out.inl hk).2), htw, hts, hcap.1, hcap.2, by have := hdt.n; have := htw.pl; omega⟩
  have HDT : Hid (DT t) := hdt
  have HLV : Hid (w1.heap.size + 1 ≤ w2.heap.size + 1) := Nat.succ_le_succ ht2.size
  clear hdt htm9 htw hts hcap hc2 ht2 hot HC1 HR1 HC2 HR2 HT HOU
  obtain ⟨l, hl⟩ : ∃ l, ad.sn = l + 1 := ⟨ad.sn - 1, by have := HDT.out.n; have := HDT.out.m; have := HAN.out.w.sl; omega⟩
  have hl9 : l ≤ 1048576 := by have := HAN.out.s.s; omega
  have hwl : IntKind.i64.wrap ((ad.sn : Int) - 1) = (l : Int) := by rw [IntKind.wrap_i64]; omega
  have HL : Hid (ad.sn = l + 1) := hl
  clear hl
  have v18 := HAN.out.rv.cell 18 rfl
  go_wp2_with (first | (refine wpList_store_row rfl 33 (.tmp 3) (.tmp 9) rfl w2.heap.size (tbA t ad) rfl rfl 33 (#[.int .i64 0, .int .i64 0, .int .i64 0, .int .i64 0, .int .i64 0, .int .i64 0, .int .i64 0, .int .i64 0, .int .i64 0, .int .i64 0, .int .i64 0, .int .i64 0, .int .i64 0, .int .i64 0, .int .i64 0, .slice none 0 0, .slice none 0 0, .slice none 0 0, .slice none 0 0]) HN.out (by kernel_rfl) rfl (by simp [Value.oneCell']) ?_) | fail)
  clear HN v18
  revert HAN HAB HLV
  generalize (w2.alloc (.cells #[.int .i64 0, .int .i64 0, .int .i64 0, .int .i64 0, .int .i64 0, .int .i64 0, .int .i64 0, .int .i64 0, .int .i64 0, .int .i64 0, .int .i64 0, .int .i64 0, .int .i64 0, .int .i64 0, .int .i64 0, .slice none 0 0, .slice none 0 0, .slice none 0 0, .slice none 0 0] 33)).setRow w2.heap.size (tbA t ad) = w3
  generalize w2.heap.size = VB
  generalize w1.heap.size + 1 = lo
  intro HAB HAN HLV
  clear hsz1 hsz2 hw2 hx0 hx1 hwl
  refine (draw_below _ _ _ _ _ _ HAN.out.ct.cur (by omega) (by omega)).mono ?_
  rintro e w4 ⟨x, rfl, hx0, hx1, hc4, ht4⟩
  replace HAN : Hid (AN w w4 B a zs cap VB lo t ad) := HAN.out.turn HAB.out hc4 ht4
  clear hc4 ht4
  have hcs : x = 0 ∨ x = 1 ∨ x = 2 ∨ x = 3 ∨ x = 4 ∨ x = 5 ∨ x = 6 ∨ x = 7 ∨ x = 8 ∨ x = 9 ∨ x = 10 ∨ x = 11 ∨ x = 12 ∨ x = 13 ∨ x = 14 ∨ x = 15 ∨ x = 16 ∨ x = 17 ∨ x = 18 ∨ 19 ≤ x := by omega
  rcases hcs with rfl | rfl | rfl | rfl | rfl | rfl | rfl | rfl | rfl | rfl | rfl | rfl | rfl | rfl | rfl | rfl | rfl | rfl | rfl | hge
  · clear hx0 hx1
    have v0 := HAN.out.rv.cell 0 rfl
    obtain ⟨m2, hm2⟩ : ∃ m, IntKind.i64.wrap (t.mem + 2) = m := ⟨_, rfl⟩
    obtain ⟨m64, hm64⟩ : ∃ m, IntKind.i64.wrap (t.mem - 64) = m := ⟨_, rfl⟩
    have HO : Hid (Own .i64 (w4.alloc (.cells #[.int .i64 0, .int .i64 60, .int .i64 64, .int .i64 m2, .int .i64 m64, .int .i64 2052] 3)) w4.heap.size [0, 60, 64, m2, m64, 2052]) := own_litD .i64 w4 3 [0, 60, 64, m2, m64, 2052]
    have hBk : B < w4.heap.size := HAN.out.ct.cur.lt
    have HA5 : Hid (AN w (w4.alloc (.cells #[.int .i64 0, .int .i64 60, .int .i64 64, .int .i64 m2, .int .i64 m64, .int .i64 2052] 3)) B a zs cap VB lo t ad) := HAN.out.alloc _
    go_wp2_with fail
    refine (draw_pick _ _ _ _ _ _ [0, 60, 64, m2, m64, 2052] HA5.out.ct.cur HO.out (by omega) (by simp) (by simp)).mono ?_
    rintro e w5 ⟨y, rfl, hyy, hc5, ht5⟩
    have HA6 : Hid (AN w w5 B a zs cap VB lo t ad) := HA5.out.turn HAB.out hc5 ht5
    have HA7 : Hid (AN w (w5.setCell ⟨VB, 0, none⟩ (.int .i64 y)) B a zs cap VB lo { t with mem := y } ad) := HA6.out.num HAB.out 0 _ (by simp) rfl rfl rfl rfl
    have u0 := HA6.out.rv.cell 0 rfl
    have z0 := HA6.out.rv.free 0
    clear HO hBk HA5 hc5 ht5 hyy
    have HBE : Hid _ := HA7.out.fin HAB.out.b HAB.out.l
    have HBR : Hid _ := HA7.out.rv
    have HB0 : Hid _ := HA7.out.r0
    have HBX : Hid (DA w (World.setRow (w5.setCell ⟨VB, 0, none⟩ (.int .i64 y)) w.heap.size (tbA { t with mem := y } ad)) B a zs cap { t with mem := y } ad) := ⟨HBE.out.2.1, HA7.out.w, HA7.out.s, HA7.out.c1, HA7.out.c2, HA7.out.p2, HBE.out.2.2.1, HBE.out.2.2.2⟩
    go_wp2_with (first | (refine wpList_load_row rfl 33 (.tmp 3) rfl VB rfl 33 (tbA { t with mem := y } ad) (0, 0) _ HBR.out Tryz.underlying33 rfl (by kernel_rfl) ?_) | (refine wpList_store_row rfl 33 (.tmp 2) (.tmp 213) rfl w.heap.size (tbA { t with mem := y } ad) rfl rfl 33 (#[.int .i64 0, .int .i64 0, .int .i64 0, .int .i64 0, .int .i64 0, .int .i64 0, .int .i64 0, .int .i64 0, .int .i64 0, .int .i64 0, .int .i64 0, .int .i64 0, .int .i64 0, .int .i64 0, .int .i64 0, .slice none 0 0, .slice none 0 0, .slice none 0 0, .slice none 0 0]) HB0.out (by kernel_rfl) rfl (by simp [Value.oneCell']) ?_) | fail)
    refine bodyPost_ret (v := tbV { t with mem := y } ad) (res_any HBE.out.1 rfl rfl) rfl ⟨{ t with mem := y }, ad, rfl, HBX.out⟩
  · clear hx0 hx1
    have HA7 : Hid (AN w (w4.setCell ⟨VB, 2, none⟩ (.int .i64 0)) B a zs cap VB lo { t with s2 := 0 } ad) := HAN.out.num HAB.out 2 _ (by simp) rfl rfl rfl rfl
    have u2 := HAN.out.rv.cell 2 rfl
    have z2 := HAN.out.rv.free 2
    have HBE : Hid _ := HA7.out.fin HAB.out.b HAB.out.l
    have HBR : Hid _ := HA7.out.rv
    have HB0 : Hid _ := HA7.out.r0
    have HBX : Hid (DA w (World.setRow (w4.setCell ⟨VB, 2, none⟩ (.int .i64 0)) w.heap.size (tbA { t with s2 := 0 } ad)) B a zs cap { t with s2 := 0 } ad) := ⟨HBE.out.2.1, HA7.out.w, HA7.out.s, HA7.out.c1, HA7.out.c2, HA7.out.p2, HBE.out.2.2.1, HBE.out.2.2.2⟩
    go_wp2_with (first | (refine wpList_load_row rfl 33 (.tmp 3) rfl VB rfl 33 (tbA { t with s2 := 0 } ad) (0, 0) _ HBR.out Tryz.underlying33 rfl (by kernel_rfl) ?_) | (refine wpList_store_row rfl 33 (.tmp 2) (.tmp 213) rfl w.heap.size (tbA { t with s2 := 0 } ad) rfl rfl 33 (#[.int .i64 0, .int .i64 0, .int .i64 0, .int .i64 0, .int .i64 0, .int .i64 0, .int .i64 0, .int .i64 0, .int .i64 0, .int .i64 0, .int .i64 0, .int .i64 0, .int .i64 0, .int .i64 0, .int .i64 0, .slice none 0 0, .slice none 0 0, .slice none 0 0, .slice none 0 0]) HB0.out (by kernel_rfl) rfl (by simp [Value.oneCell']) ?_) | fail)
    refine bodyPost_ret (v := tbV { t with s2 := 0 } ad) (res_any HBE.out.1 rfl rfl) rfl ⟨{ t with s2 := 0 }, ad, rfl, HBX.out⟩
  · clear hx0 hx1
    have HO : Hid (Own .i64 (w4.alloc (.cells #[.int .i64 0, .int .i64 9] 3)) w4.heap.size [0, 9]) := own_litD .i64 w4 3 [0, 9]
    have hBk : B < w4.heap.size := HAN.out.ct.cur.lt
    have HA5 : Hid (AN w (w4.alloc (.cells #[.int .i64 0, .int .i64 9] 3)) B a zs cap VB lo t ad) := HAN.out.alloc _
    go_wp2_with fail
    refine (draw_pick _ _ _ _ _ _ [0, 9] HA5.out.ct.cur HO.out (by omega) (by simp) (by simp)).mono ?_
    rintro e w5 ⟨y, rfl, hyy, hc5, ht5⟩
    have HA6 : Hid (AN w w5 B a zs cap VB lo t ad) := HA5.out.turn HAB.out hc5 ht5
    have HA7 : Hid (AN w (w5.setCell ⟨VB, 4, none⟩ (.int .i64 y)) B a zs cap VB lo { t with tlb := y } ad) := HA6.out.num HAB.out 4 _ (by simp) rfl rfl rfl rfl
    have u4 := HA6.out.rv.cell 4 rfl
    have z4 := HA6.out.rv.free 4
    clear HO hBk HA5 hc5 ht5 hyy
    have HBE : Hid _ := HA7.out.fin HAB.out.b HAB.out.l
    have HBR : Hid _ := HA7.out.rv
    have HB0 : Hid _ := HA7.out.r0
    have HBX : Hid (DA w (World.setRow (w5.setCell ⟨VB, 4, none⟩ (.int .i64 y)) w.heap.size (tbA { t with tlb := y } ad)) B a zs cap { t with tlb := y } ad) := ⟨HBE.out.2.1, HA7.out.w, HA7.out.s, HA7.out.c1, HA7.out.c2, HA7.out.p2, HBE.out.2.2.1, HBE.out.2.2.2⟩
    go_wp2_with (first | (refine wpList_load_row rfl 33 (.tmp 3) rfl VB rfl 33 (tbA { t with tlb := y } ad) (0, 0) _ HBR.out Tryz.underlying33 rfl (by kernel_rfl) ?_) | (refine wpList_store_row rfl 33 (.tmp 2) (.tmp 213) rfl w.heap.size (tbA { t with tlb := y } ad) rfl rfl 33 (#[.int .i64 0, .int .i64 0, .int .i64 0, .int .i64 0, .int .i64 0, .int .i64 0, .int .i64 0, .int .i64 0, .int .i64 0, .int .i64 0, .int .i64 0, .int .i64 0, .int .i64 0, .int .i64 0, .int .i64 0, .slice none 0 0, .slice none 0 0, .slice none 0 0, .slice none 0 0]) HB0.out (by kernel_rfl) rfl (by simp [Value.oneCell']) ?_) | fail)
    refine bodyPost_ret (v := tbV { t with tlb := y } ad) (res_any HBE.out.1 rfl rfl) rfl ⟨{ t with tlb := y }, ad, rfl, HBX.out⟩
  · clear hx0 hx1
    have HA7 : Hid (AN w (w4.setCell ⟨VB, 5, none⟩ (.int .i64 0)) B a zs cap VB lo { t with c1 := 0 } ad) := HAN.out.num HAB.out 5 _ (by simp) rfl rfl rfl rfl
    have u5 := HAN.out.rv.cell 5 rfl
    have z5 := HAN.out.rv.free 5
    have HBE : Hid _ := HA7.out.fin HAB.out.b HAB.out.l
    have HBR : Hid _ := HA7.out.rv
    have HB0 : Hid _ := HA7.out.r0
    have HBX : Hid (DA w (World.setRow (w4.setCell ⟨VB, 5, none⟩ (.int .i64 0)) w.heap.size (tbA { t with c1 := 0 } ad)) B a zs cap { t with c1 := 0 } ad) := ⟨HBE.out.2.1, HA7.out.w, HA7.out.s, HA7.out.c1, HA7.out.c2, HA7.out.p2, HBE.out.2.2.1, HBE.out.2.2.2⟩
    go_wp2_with (first | (refine wpList_load_row rfl 33 (.tmp 3) rfl VB rfl 33 (tbA { t with c1 := 0 } ad) (0, 0) _ HBR.out Tryz.underlying33 rfl (by kernel_rfl) ?_) | (refine wpList_store_row rfl 33 (.tmp 2) (.tmp 213) rfl w.heap.size (tbA { t with c1 := 0 } ad) rfl rfl 33 (#[.int .i64 0, .int .i64 0, .int .i64 0, .int .i64 0, .int .i64 0, .int .i64 0, .int .i64 0, .int .i64 0, .int .i64 0, .int .i64 0, .int .i64 0, .int .i64 0, .int .i64 0, .int .i64 0, .int .i64 0, .slice none 0 0, .slice none 0 0, .slice none 0 0, .slice none 0 0]) HB0.out (by kernel_rfl) rfl (by simp [Value.oneCell']) ?_) | fail)
    refine bodyPost_ret (v := tbV { t with c1 := 0 } ad) (res_any HBE.out.1 rfl rfl) rfl ⟨{ t with c1 := 0 }, ad, rfl, HBX.out⟩
  · clear hx0 hx1
    have v1 := HAN.out.rv.cell 1 rfl
    have v2 := HAN.out.rv.cell 2 rfl
    have v3 := HAN.out.rv.cell 3 rfl
    have v5 := HAN.out.rv.cell 5 rfl
    have v6 := HAN.out.rv.cell 6 rfl
    have v7 := HAN.out.rv.cell 7 rfl
    have v8 := HAN.out.rv.cell 8 rfl
    have v9 := HAN.out.rv.cell 9 rfl
    have v10 := HAN.out.rv.cell 10 rfl
    have v11 := HAN.out.rv.cell 11 rfl
    have v17 := HAN.out.rv.cell 17 rfl
    have HCP : Hid _ := spec_pad t.c1 t.c2 t.c3 t.c4 t.c5 t.c6 t.c7 t.s1 t.s2 t.s3 ad.ca ad.cc ad.cn t.cs w4 HAN.out.o.tm.c.seg (by have := HAN.out.s.c; omega)
    go_wp2_with fail
    refine Calls.mono HCP.out ?_
    rintro e w5 ⟨⟨v, rfl, hv1, hv2⟩, hb⟩
    clear hv1 hv2 HCP v1 v2 v3 v5 v6 v7 v8 v9 v10 v11 v17
    replace HAN : Hid (AN w w5 B a zs cap VB lo t ad) := HAN.out.turn HAB.out (HAN.out.ct.cur.below hb) (Turn.of_below hb)
    clear hb
    obtain ⟨u, hu⟩ : ∃ m, IntKind.i64.wrap (v - 1) = m := ⟨_, rfl⟩
    have HO : Hid (Own .i64 (w5.alloc (.cells #[.int .i64 0, .int .i64 u, .int .i64 5001] 3)) w5.heap.size [0, u, 5001]) := own_litD .i64 w5 3 [0, u, 5001]
    have hBk : B < w5.heap.size := HAN.out.ct.cur.lt
    have HA5 : Hid (AN w (w5.alloc (.cells #[.int .i64 0, .int .i64 u, .int .i64 5001] 3)) B a zs cap VB lo t ad) := HAN.out.alloc _
    go_wp2_with fail
    refine (draw_pick _ _ _ _ _ _ [0, u, 5001] HA5.out.ct.cur HO.out (by omega) (by simp) (by simp)).mono ?_
    rintro e w6 ⟨y, rfl, hyy, hc5, ht5⟩
    have HA6 : Hid (AN w w6 B a zs cap VB lo t ad) := HA5.out.turn HAB.out hc5 ht5
    have HA7 : Hid (AN w (w6.setCell ⟨VB, 12, none⟩ (.int .i64 y)) B a zs cap VB lo { t with pad := y } ad) := HA6.out.num HAB.out 12 _ (by simp) rfl rfl rfl rfl
    have u12 := HA6.out.rv.cell 12 rfl
    have z12 := HA6.out.rv.free 12
    clear HO hBk HA5 hc5 ht5 hyy
    have HBE : Hid _ := HA7.out.fin HAB.out.b HAB.out.l
    have HBR : Hid _ := HA7.out.rv
    have HB0 : Hid _ := HA7.out.r0
    have HBX : Hid (DA w (World.setRow (w6.setCell ⟨VB, 12, none⟩ (.int .i64 y)) w.heap.size (tbA { t with pad := y } ad)) B a zs cap { t with pad := y } ad) := ⟨HBE.out.2.1, HA7.out.w, HA7.out.s, HA7.out.c1, HA7.out.c2, HA7.out.p2, HBE.out.2.2.1, HBE.out.2.2.2⟩
    go_wp2_with (first | (refine wpList_load_row rfl 33 (.tmp 3) rfl VB rfl 33 (tbA { t with pad := y } ad) (0, 0) _ HBR.out Tryz.underlying33 rfl (by kernel_rfl) ?_) | (refine wpList_store_row rfl 33 (.tmp 2) (.tmp 213) rfl w.heap.size (tbA { t with pad := y } ad) rfl rfl 33 (#[.int .i64 0, .int .i64 0, .int .i64 0, .int .i64 0, .int .i64 0, .int .i64 0, .int .i64 0, .int .i64 0, .int .i64 0, .int .i64 0, .int .i64 0, .int .i64 0, .int .i64 0, .int .i64 0, .int .i64 0, .slice none 0 0, .slice none 0 0, .slice none 0 0, .slice none 0 0]) HB0.out (by kernel_rfl) rfl (by simp [Value.oneCell']) ?_) | fail)
    refine bodyPost_ret (v := tbV { t with pad := y } ad) (res_any HBE.out.1 rfl rfl) rfl ⟨{ t with pad := y }, ad, rfl, HBX.out⟩
  · clear hx0 hx1
    have v5 := HAN.out.rv.cell 5 rfl
    have v6 := HAN.out.rv.cell 6 rfl
    have v7 := HAN.out.rv.cell 7 rfl
    have v8 := HAN.out.rv.cell 8 rfl
    have v9 := HAN.out.rv.cell 9 rfl
    have v10 := HAN.out.rv.cell 10 rfl
    have v11 := HAN.out.rv.cell 11 rfl
    have HCW : Hid _ := spec_worstS t.c1 t.c2 t.c3 t.c4 t.c5 t.c6 t.c7 w4
    obtain ⟨v, hv⟩ : ∃ v, worstStep t.c1 t.c2 t.c3 t.c4 t.c5 t.c6 t.c7 = v := ⟨_, rfl⟩
    rw [hv] at HCW
    obtain ⟨u, hu⟩ : ∃ m, IntKind.i64.wrap (v - 1) = m := ⟨_, rfl⟩
    go_wp2_with fail
    refine Calls.mono HCW.out ?_
    rintro e w5 ⟨rfl, hb⟩
    clear HCW hv v5 v6 v7 v8 v9 v10 v11
    replace HAN : Hid (AN w w5 B a zs cap VB lo t ad) := HAN.out.turn HAB.out (HAN.out.ct.cur.below hb) (Turn.of_below hb)
    clear hb
    have HA7 : Hid (AN w (w5.setCell ⟨VB, 13, none⟩ (.int .i64 u)) B a zs cap VB lo { t with grd := u } ad) := HAN.out.num HAB.out 13 _ (by simp) rfl rfl rfl rfl
    have u13 := HAN.out.rv.cell 13 rfl
    have z13 := HAN.out.rv.free 13
    have HBE : Hid _ := HA7.out.fin HAB.out.b HAB.out.l
    have HBR : Hid _ := HA7.out.rv
    have HB0 : Hid _ := HA7.out.r0
    have HBX : Hid (DA w (World.setRow (w5.setCell ⟨VB, 13, none⟩ (.int .i64 u)) w.heap.size (tbA { t with grd := u } ad)) B a zs cap { t with grd := u } ad) := ⟨HBE.out.2.1, HA7.out.w, HA7.out.s, HA7.out.c1, HA7.out.c2, HA7.out.p2, HBE.out.2.2.1, HBE.out.2.2.2⟩
    go_wp2_with (first | (refine wpList_load_row rfl 33 (.tmp 3) rfl VB rfl 33 (tbA { t with grd := u } ad) (0, 0) _ HBR.out Tryz.underlying33 rfl (by kernel_rfl) ?_) | (refine wpList_store_row rfl 33 (.tmp 2) (.tmp 213) rfl w.heap.size (tbA { t with grd := u } ad) rfl rfl 33 (#[.int .i64 0, .int .i64 0, .int .i64 0, .int .i64 0, .int .i64 0, .int .i64 0, .int .i64 0, .int .i64 0, .int .i64 0, .int .i64 0, .int .i64 0, .int .i64 0, .int .i64 0, .int .i64 0, .int .i64 0, .slice none 0 0, .slice none 0 0, .slice none 0 0, .slice none 0 0]) HB0.out (by kernel_rfl) rfl (by simp [Value.oneCell']) ?_) | fail)
    refine bodyPost_ret (v := tbV { t with grd := u } ad) (res_any HBE.out.1 rfl rfl) rfl ⟨{ t with grd := u }, ad, rfl, HBX.out⟩
  · clear hx0 hx1
    have hs0 : 0 < ad.sn := by have := HL.out; omega
    have hsi : (0 : Int) < (ad.sn : Int) := by omega
    have hls : l < ad.sn := by have := HL.out; omega
    have hlsi : (l : Int) < (ad.sn : Int) := by omega
    obtain ⟨g, hsa⟩ := HAN.out.o.sab hs0
    have HSA : Hid (ad.sa = some ⟨g, 0, none⟩) := hsa
    clear hsa
    obtain ⟨s1, HS1⟩ : ∃ v, Hid ((t.ss.getD l sl0).2.1 = v) := ⟨_, rfl⟩
    obtain ⟨s2, HS2⟩ : ∃ v, Hid ((t.ss.getD l sl0).2.2 = v) := ⟨_, rfl⟩
    have HCU0 : Hid (Cur w4 B a zs cap) := HAN.out.ct.cur
    have HBW : Hid (B < w4.heap.size) := HAN.out.ct.cur.lt
    go_wp2
    refine wp_region_inv (by kernel_rfl) (by kernel_rfl) (fun AC ℓ a' w' => ∃ (x65 x66 x67 x68 x69 x70 x71 x72 x73 x74 x75 x76 x77 x78 x79 : Value), a' = (((((((((((((((AC.put (some 65) x65).put (some 66) x66).put (some 67) x67).put (some 68) x68).put (some 69) x69).put (some 70) x70).put (some 71) x71).put (some 72) x72).put (some 73) x73).put (some 74) x74).put (some 75) x75).put (some 76) x76).put (some 77) x77).put (some 78) x78).put (some 79) x79) ∧ D6 (w4) B a zs cap (⟨VB, 14, none⟩) VB g l ad s1 s2 w' (ℓ 0) (ℓ 1) (ℓ 2) (ℓ 3) (ℓ 4) (ℓ 5) (ℓ 6) (ℓ 7) (ℓ 8) (ℓ 9) (ℓ 10) (ℓ 11) (ℓ 12) (ℓ 13) (ℓ 14) (ℓ 15) x65 x66 x67 x68 x69 x70 x71 x72 x73 x74 x75 x76 x77 x78 x79) ?_ ?_ ?_ ?_
    · exact ⟨undef, undef, undef, undef, undef, undef, undef, undef, undef, undef, undef, undef, undef, undef, undef, (by simp only [Act.put, List.setIfInBounds_toArray, List.set_cons_zero, List.set_cons_succ]), ⟨(fun g => by cases g), (fun _ => HCU0.out.drewN 1), (fun _ => (Turn.refl _ _).drewN 1), (fun g => by cases g), (fun g => by cases g), (fun g => by cases g), (fun g => by cases g), (fun g => by cases g), (fun g => by cases g), (fun g => by cases g), (fun g => by cases g), (fun g => by cases g), (fun g => by cases g), (fun g => by cases g), (fun g => by cases g), (fun g => by cases g), (fun g => by cases g), (fun g => by cases g), (fun g => by cases g)⟩⟩
    · intro ℓ a' w' hI hall
      obtain ⟨x65, x66, x67, x68, x69, x70, x71, x72, x73, x74, x75, x76, x77, x78, x79, rfl, hr⟩ := hI
      have hall' : ∀ i, i < 16 → ℓ i = true := hall
      obtain ⟨V, hcV, htV, rfl⟩ := hr.la (hall' 15 (by decide))
      obtain rfl := hr.f0 (hall' 0 (by decide))
      obtain rfl := hr.f1 (hall' 1 (by decide))
      obtain rfl := hr.f2 (hall' 2 (by decide))
      obtain rfl := hr.f3 (hall' 3 (by decide))
      obtain rfl := hr.f4 (hall' 4 (by decide))
      obtain rfl := hr.f5 (hall' 5 (by decide))
      obtain rfl := hr.f6 (hall' 6 (by decide))
      obtain rfl := hr.f7 (hall' 7 (by decide))
      obtain rfl := hr.f8 (hall' 8 (by decide))
      obtain rfl := hr.f9 (hall' 9 (by decide))
      obtain rfl := hr.f10 (hall' 10 (by decide))
      obtain rfl := hr.f11 (hall' 11 (by decide))
      obtain rfl := hr.f12 (hall' 12 (by decide))
      obtain rfl := hr.f13 (hall' 13 (by decide))
      obtain rfl := hr.f14 (hall' 14 (by decide))
      clear hr hall hall'
      simp only [Act.put, List.setIfInBounds_toArray, List.set_cons_zero, List.set_cons_succ]
      have HA6 : Hid (AN w V B a zs cap VB lo t ad) := HAN.out.turn HAB.out hcV htV
      have HA7 : Hid (AN w (V.setCell ⟨VB, 14, none⟩ (.int .i64 (IntKind.i64.wrap (IntKind.i64.wrap (s1 + s2) - 1)))) B a zs cap VB lo { t with maj := IntKind.i64.wrap (IntKind.i64.wrap (s1 + s2) - 1) } ad) := HA6.out.num HAB.out 14 _ (by simp) rfl rfl rfl rfl
      have HBE : Hid _ := HA7.out.fin HAB.out.b HAB.out.l
      have HBR : Hid _ := HA7.out.rv
      have HB0 : Hid _ := HA7.out.r0
      have HBX : Hid (DA w (World.setRow (V.setCell ⟨VB, 14, none⟩ (.int .i64 (IntKind.i64.wrap (IntKind.i64.wrap (s1 + s2) - 1)))) w.heap.size (tbA { t with maj := IntKind.i64.wrap (IntKind.i64.wrap (s1 + s2) - 1) } ad)) B a zs cap { t with maj := IntKind.i64.wrap (IntKind.i64.wrap (s1 + s2) - 1) } ad) := ⟨HBE.out.2.1, HA7.out.w, HA7.out.s, HA7.out.c1, HA7.out.c2, HA7.out.p2, HBE.out.2.2.1, HBE.out.2.2.2⟩
      go_wp2_with (first | (refine wpList_load_row rfl 33 (.tmp 3) rfl VB rfl 33 (tbA { t with maj := IntKind.i64.wrap (IntKind.i64.wrap (s1 + s2) - 1) } ad) (0, 0) _ HBR.out Tryz.underlying33 rfl (by kernel_rfl) ?_) | (refine wpList_store_row rfl 33 (.tmp 2) (.tmp 213) rfl w.heap.size (tbA { t with maj := IntKind.i64.wrap (IntKind.i64.wrap (s1 + s2) - 1) } ad) rfl rfl 33 (#[.int .i64 0, .int .i64 0, .int .i64 0, .int .i64 0, .int .i64 0, .int .i64 0, .int .i64 0, .int .i64 0, .int .i64 0, .int .i64 0, .int .i64 0, .int .i64 0, .int .i64 0, .int .i64 0, .int .i64 0, .slice none 0 0, .slice none 0 0, .slice none 0 0, .slice none 0 0]) HB0.out (by kernel_rfl) rfl (by simp [Value.oneCell']) ?_) | fail)
      refine bodyPost_ret (v := tbV { t with maj := IntKind.i64.wrap (IntKind.i64.wrap (s1 + s2) - 1) } ad) (res_any HBE.out.1 rfl rfl) rfl ⟨{ t with maj := IntKind.i64.wrap (IntKind.i64.wrap (s1 + s2) - 1) }, ad, rfl, HBX.out⟩
    · intro ℓ a' w' i o hI ho hi hL hdep K hK
      obtain ⟨x65, x66, x67, x68, x69, x70, x71, x72, x73, x74, x75, x76, x77, x78, x79, rfl, hr⟩ := hI
      have hi7 : i < 16 := hi
      have hcs : i = 0 ∨ i = 1 ∨ i = 2 ∨ i = 3 ∨ i = 4 ∨ i = 5 ∨ i = 6 ∨ i = 7 ∨ i = 8 ∨ i = 9 ∨ i = 10 ∨ i = 11 ∨ i = 12 ∨ i = 13 ∨ i = 14 ∨ i = 15 := by omega
      clear hi hi7
      rcases hcs with rfl | rfl | rfl | rfl | rfl | rfl | rfl | rfl | rfl | rfl | rfl | rfl | rfl | rfl | rfl | rfl
      · revert hK
        obtain rfl := Option.some.inj ho
        clear hdep ho
        have hlL : ℓ 15 = false := by
          cases h7 : ℓ 15
          · rfl
          · have := (hr.cl h7).1; rw [this] at hL; cases hL
        have hlG := hlL
        have hc := hr.cu hlG
        have ht := hr.tu hlG
        intro hK
        rw [if_pos (by rfl)]
        try simp only [Act.put, List.setIfInBounds_toArray, List.set_cons_zero, List.set_cons_succ]
        go_simp
        exact hK.out _ _ (fun j => if j = 0 then true else ℓ j) ⟨(.pointer (some ⟨VB, 18, none⟩)), x66, x67, x68, x69, x70, x71, x72, x73, x74, x75, x76, x77, x78, x79, (by simp only [Act.put, List.setIfInBounds_toArray, List.set_cons_zero, List.set_cons_succ]), ⟨(fun g7 => absurd (hlL.symm.trans g7) Bool.false_ne_true), hr.cu, hr.tu, (fun g7 => absurd (hlL.symm.trans g7) Bool.false_ne_true), (fun _ => rfl), hr.f1, hr.f2, hr.f3, hr.f4, hr.f5, hr.f6, hr.f7, hr.f8, hr.f9, hr.f10, hr.f11, hr.f12, hr.f13, hr.f14⟩⟩ (if_pos rfl) (fun j hj => if_neg hj)
      · revert hK
        obtain rfl := Option.some.inj ho
        have g0 : ℓ 0 = true := hdep { on := 0, ground := Ground.data } (by simp) rfl
        clear hdep ho
        have hlL : ℓ 15 = false := by
          cases h7 : ℓ 15
          · rfl
          · have := (hr.cl h7).2.1; rw [this] at hL; cases hL
        have hlG := hlL
        have hc := hr.cu hlG
        have ht := hr.tu hlG
        obtain rfl := hr.f0 g0
        intro hK
        rw [if_pos (by rfl)]
        try simp only [Act.put, List.setIfInBounds_toArray, List.set_cons_zero, List.set_cons_succ]
        have cc := (show w'.cell? ⟨VB, 18, none⟩ = some (.slice (some ⟨g, 0, none⟩) ad.sn ad.sc) from by rw [← HSA.out]; exact (HAN.out.turn HAB.out hc ht).rv.cell 18 rfl)
        go_simp
        exact hK.out _ _ (fun j => if j = 1 then true else ℓ j) ⟨(.pointer (some ⟨VB, 18, none⟩)), (.slice (some ⟨g, 0, none⟩) ad.sn ad.sc), x67, x68, x69, x70, x71, x72, x73, x74, x75, x76, x77, x78, x79, (by simp only [Act.put, List.setIfInBounds_toArray, List.set_cons_zero, List.set_cons_succ]), ⟨(fun g7 => absurd (hlL.symm.trans g7) Bool.false_ne_true), hr.cu, hr.tu, (fun g7 => absurd (hlL.symm.trans g7) Bool.false_ne_true), hr.f0, (fun _ => rfl), hr.f2, hr.f3, hr.f4, hr.f5, hr.f6, hr.f7, hr.f8, hr.f9, hr.f10, hr.f11, hr.f12, hr.f13, hr.f14⟩⟩ (if_pos rfl) (fun j hj => if_neg hj)
      · revert hK
        obtain rfl := Option.some.inj ho
        clear hdep ho
        have hlL : ℓ 15 = false := by
          cases h7 : ℓ 15
          · rfl
          · have := (hr.cl h7).2.2.1; rw [this] at hL; cases hL
        have hlG := hlL
        have hc := hr.cu hlG
        have ht := hr.tu hlG
        intro hK
        rw [if_pos (by rfl)]
        try simp only [Act.put, List.setIfInBounds_toArray, List.set_cons_zero, List.set_cons_succ]
        go_simp
        exact hK.out _ _ (fun j => if j = 2 then true else ℓ j) ⟨x65, x66, (.int .i64 (l : Int)), x68, x69, x70, x71, x72, x73, x74, x75, x76, x77, x78, x79, (by simp only [Act.put, List.setIfInBounds_toArray, List.set_cons_zero, List.set_cons_succ]), ⟨(fun g7 => absurd (hlL.symm.trans g7) Bool.false_ne_true), hr.cu, hr.tu, (fun g7 => absurd (hlL.symm.trans g7) Bool.false_ne_true), hr.f0, hr.f1, (fun _ => rfl), hr.f3, hr.f4, hr.f5, hr.f6, hr.f7, hr.f8, hr.f9, hr.f10, hr.f11, hr.f12, hr.f13, hr.f14⟩⟩ (if_pos rfl) (fun j hj => if_neg hj)
      · revert hK
        obtain rfl := Option.some.inj ho
        have g1 : ℓ 1 = true := hdep { on := 1, ground := Ground.data } (by simp) rfl
        have g2 : ℓ 2 = true := hdep { on := 2, ground := Ground.data } (by simp) rfl
        clear hdep ho
        have hlL : ℓ 15 = false := by
          cases h7 : ℓ 15
          · rfl
          · have := (hr.cl h7).2.2.2.1; rw [this] at hL; cases hL
        have hlG := hlL
        have hc := hr.cu hlG
        have ht := hr.tu hlG
        obtain rfl := hr.f1 g1
        obtain rfl := hr.f2 g2
        intro hK
        rw [if_pos (by rfl)]
        try simp only [Act.put, List.setIfInBounds_toArray, List.set_cons_zero, List.set_cons_succ]
        go_simp
        exact hK.out _ _ (fun j => if j = 3 then true else ℓ j) ⟨x65, (.slice (some ⟨g, 0, none⟩) ad.sn ad.sc), (.int .i64 (l : Int)), (.pointer (some ⟨g, l * 3, none⟩)), x69, x70, x71, x72, x73, x74, x75, x76, x77, x78, x79, (by simp only [Act.put, List.setIfInBounds_toArray, List.set_cons_zero, List.set_cons_succ]), ⟨(fun g7 => absurd (hlL.symm.trans g7) Bool.false_ne_true), hr.cu, hr.tu, (fun g7 => absurd (hlL.symm.trans g7) Bool.false_ne_true), hr.f0, hr.f1, hr.f2, (fun _ => rfl), hr.f4, hr.f5, hr.f6, hr.f7, hr.f8, hr.f9, hr.f10, hr.f11, hr.f12, hr.f13, hr.f14⟩⟩ (if_pos rfl) (fun j hj => if_neg hj)
      · revert hK
        obtain rfl := Option.some.inj ho
        have g3 : ℓ 3 = true := hdep { on := 3, ground := Ground.data } (by simp) rfl
        clear hdep ho
        have hlL : ℓ 15 = false := by
          cases h7 : ℓ 15
          · rfl
          · have := (hr.cl h7).2.2.2.2.1; rw [this] at hL; cases hL
        have hlG := hlL
        have hc := hr.cu hlG
        have ht := hr.tu hlG
        obtain rfl := hr.f3 g3
        intro hK
        rw [if_pos (by rfl)]
        try simp only [Act.put, List.setIfInBounds_toArray, List.set_cons_zero, List.set_cons_succ]
        go_simp
        exact hK.out _ _ (fun j => if j = 4 then true else ℓ j) ⟨x65, x66, x67, (.pointer (some ⟨g, l * 3, none⟩)), (.pointer (some ⟨g, l * 3 + 1, none⟩)), x70, x71, x72, x73, x74, x75, x76, x77, x78, x79, (by simp only [Act.put, List.setIfInBounds_toArray, List.set_cons_zero, List.set_cons_succ]), ⟨(fun g7 => absurd (hlL.symm.trans g7) Bool.false_ne_true), hr.cu, hr.tu, (fun g7 => absurd (hlL.symm.trans g7) Bool.false_ne_true), hr.f0, hr.f1, hr.f2, hr.f3, (fun _ => rfl), hr.f5, hr.f6, hr.f7, hr.f8, hr.f9, hr.f10, hr.f11, hr.f12, hr.f13, hr.f14⟩⟩ (if_pos rfl) (fun j hj => if_neg hj)
      · revert hK
        obtain rfl := Option.some.inj ho
        have g4 : ℓ 4 = true := hdep { on := 4, ground := Ground.data } (by simp) rfl
        clear hdep ho
        have hlL : ℓ 15 = false := by
          cases h7 : ℓ 15
          · rfl
          · have := (hr.cl h7).2.2.2.2.2.1; rw [this] at hL; cases hL
        have hlG := hlL
        have hc := hr.cu hlG
        have ht := hr.tu hlG
        obtain rfl := hr.f4 g4
        intro hK
        rw [if_pos (by rfl)]
        try simp only [Act.put, List.setIfInBounds_toArray, List.set_cons_zero, List.set_cons_succ]
        have cc := (show w'.cell? ⟨g, l * 3 + 1, none⟩ = some (.int .i64 s1) from by rw [← HS1.out]; exact (HAN.out.turn HAB.out hc ht).o.sat HSA.out l hls 1 (by decide) rfl)
        go_simp
        exact hK.out _ _ (fun j => if j = 5 then true else ℓ j) ⟨x65, x66, x67, x68, (.pointer (some ⟨g, l * 3 + 1, none⟩)), (.int .i64 s1), x71, x72, x73, x74, x75, x76, x77, x78, x79, (by simp only [Act.put, List.setIfInBounds_toArray, List.set_cons_zero, List.set_cons_succ]), ⟨(fun g7 => absurd (hlL.symm.trans g7) Bool.false_ne_true), hr.cu, hr.tu, (fun g7 => absurd (hlL.symm.trans g7) Bool.false_ne_true), hr.f0, hr.f1, hr.f2, hr.f3, hr.f4, (fun _ => rfl), hr.f6, hr.f7, hr.f8, hr.f9, hr.f10, hr.f11, hr.f12, hr.f13, hr.f14⟩⟩ (if_pos rfl) (fun j hj => if_neg hj)
      · revert hK
        obtain rfl := Option.some.inj ho
        clear hdep ho
        have hlL : ℓ 15 = false := by
          cases h7 : ℓ 15
          · rfl
          · have := (hr.cl h7).2.2.2.2.2.2.1; rw [this] at hL; cases hL
        have hlG := hlL
        have hc := hr.cu hlG
        have ht := hr.tu hlG
        intro hK
        rw [if_pos (by rfl)]
        try simp only [Act.put, List.setIfInBounds_toArray, List.set_cons_zero, List.set_cons_succ]
        go_simp
        exact hK.out _ _ (fun j => if j = 6 then true else ℓ j) ⟨x65, x66, x67, x68, x69, x70, (.pointer (some ⟨VB, 18, none⟩)), x72, x73, x74, x75, x76, x77, x78, x79, (by simp only [Act.put, List.setIfInBounds_toArray, List.set_cons_zero, List.set_cons_succ]), ⟨(fun g7 => absurd (hlL.symm.trans g7) Bool.false_ne_true), hr.cu, hr.tu, (fun g7 => absurd (hlL.symm.trans g7) Bool.false_ne_true), hr.f0, hr.f1, hr.f2, hr.f3, hr.f4, hr.f5, (fun _ => rfl), hr.f7, hr.f8, hr.f9, hr.f10, hr.f11, hr.f12, hr.f13, hr.f14⟩⟩ (if_pos rfl) (fun j hj => if_neg hj)
      · revert hK
        obtain rfl := Option.some.inj ho
        have g6 : ℓ 6 = true := hdep { on := 6, ground := Ground.data } (by simp) rfl
        clear hdep ho
        have hlL : ℓ 15 = false := by
          cases h7 : ℓ 15
          · rfl
          · have := (hr.cl h7).2.2.2.2.2.2.2.1; rw [this] at hL; cases hL
        have hlG := hlL
        have hc := hr.cu hlG
        have ht := hr.tu hlG
        obtain rfl := hr.f6 g6
        intro hK
        rw [if_pos (by rfl)]
        try simp only [Act.put, List.setIfInBounds_toArray, List.set_cons_zero, List.set_cons_succ]
        have cc := (show w'.cell? ⟨VB, 18, none⟩ = some (.slice (some ⟨g, 0, none⟩) ad.sn ad.sc) from by rw [← HSA.out]; exact (HAN.out.turn HAB.out hc ht).rv.cell 18 rfl)
        go_simp
        exact hK.out _ _ (fun j => if j = 7 then true else ℓ j) ⟨x65, x66, x67, x68, x69, x70, (.pointer (some ⟨VB, 18, none⟩)), (.slice (some ⟨g, 0, none⟩) ad.sn ad.sc), x73, x74, x75, x76, x77, x78, x79, (by simp only [Act.put, List.setIfInBounds_toArray, List.set_cons_zero, List.set_cons_succ]), ⟨(fun g7 => absurd (hlL.symm.trans g7) Bool.false_ne_true), hr.cu, hr.tu, (fun g7 => absurd (hlL.symm.trans g7) Bool.false_ne_true), hr.f0, hr.f1, hr.f2, hr.f3, hr.f4, hr.f5, hr.f6, (fun _ => rfl), hr.f8, hr.f9, hr.f10, hr.f11, hr.f12, hr.f13, hr.f14⟩⟩ (if_pos rfl) (fun j hj => if_neg hj)
      · revert hK
        obtain rfl := Option.some.inj ho
        clear hdep ho
        have hlL : ℓ 15 = false := by
          cases h7 : ℓ 15
          · rfl
          · have := (hr.cl h7).2.2.2.2.2.2.2.2.1; rw [this] at hL; cases hL
        have hlG := hlL
        have hc := hr.cu hlG
        have ht := hr.tu hlG
        intro hK
        rw [if_pos (by rfl)]
        try simp only [Act.put, List.setIfInBounds_toArray, List.set_cons_zero, List.set_cons_succ]
        go_simp
        exact hK.out _ _ (fun j => if j = 8 then true else ℓ j) ⟨x65, x66, x67, x68, x69, x70, x71, x72, (.int .i64 (l : Int)), x74, x75, x76, x77, x78, x79, (by simp only [Act.put, List.setIfInBounds_toArray, List.set_cons_zero, List.set_cons_succ]), ⟨(fun g7 => absurd (hlL.symm.trans g7) Bool.false_ne_true), hr.cu, hr.tu, (fun g7 => absurd (hlL.symm.trans g7) Bool.false_ne_true), hr.f0, hr.f1, hr.f2, hr.f3, hr.f4, hr.f5, hr.f6, hr.f7, (fun _ => rfl), hr.f9, hr.f10, hr.f11, hr.f12, hr.f13, hr.f14⟩⟩ (if_pos rfl) (fun j hj => if_neg hj)
      · revert hK
        obtain rfl := Option.some.inj ho
        have g7 : ℓ 7 = true := hdep { on := 7, ground := Ground.data } (by simp) rfl
        have g8 : ℓ 8 = true := hdep { on := 8, ground := Ground.data } (by simp) rfl
        clear hdep ho
        have hlL : ℓ 15 = false := by
          cases h7 : ℓ 15
          · rfl
          · have := (hr.cl h7).2.2.2.2.2.2.2.2.2.1; rw [this] at hL; cases hL
        have hlG := hlL
        have hc := hr.cu hlG
        have ht := hr.tu hlG
        obtain rfl := hr.f7 g7
        obtain rfl := hr.f8 g8
        intro hK
        rw [if_pos (by rfl)]
        try simp only [Act.put, List.setIfInBounds_toArray, List.set_cons_zero, List.set_cons_succ]
        go_simp
        exact hK.out _ _ (fun j => if j = 9 then true else ℓ j) ⟨x65, x66, x67, x68, x69, x70, x71, (.slice (some ⟨g, 0, none⟩) ad.sn ad.sc), (.int .i64 (l : Int)), (.pointer (some ⟨g, l * 3, none⟩)), x75, x76, x77, x78, x79, (by simp only [Act.put, List.setIfInBounds_toArray, List.set_cons_zero, List.set_cons_succ]), ⟨(fun g7 => absurd (hlL.symm.trans g7) Bool.false_ne_true), hr.cu, hr.tu, (fun g7 => absurd (hlL.symm.trans g7) Bool.false_ne_true), hr.f0, hr.f1, hr.f2, hr.f3, hr.f4, hr.f5, hr.f6, hr.f7, hr.f8, (fun _ => rfl), hr.f10, hr.f11, hr.f12, hr.f13, hr.f14⟩⟩ (if_pos rfl) (fun j hj => if_neg hj)
      · revert hK
        obtain rfl := Option.some.inj ho
        have g9 : ℓ 9 = true := hdep { on := 9, ground := Ground.data } (by simp) rfl
        clear hdep ho
        have hlL : ℓ 15 = false := by
          cases h7 : ℓ 15
          · rfl
          · have := (hr.cl h7).2.2.2.2.2.2.2.2.2.2.1; rw [this] at hL; cases hL
        have hlG := hlL
        have hc := hr.cu hlG
        have ht := hr.tu hlG
        obtain rfl := hr.f9 g9
        intro hK
        rw [if_pos (by rfl)]
        try simp only [Act.put, List.setIfInBounds_toArray, List.set_cons_zero, List.set_cons_succ]
        go_simp
        exact hK.out _ _ (fun j => if j = 10 then true else ℓ j) ⟨x65, x66, x67, x68, x69, x70, x71, x72, x73, (.pointer (some ⟨g, l * 3, none⟩)), (.pointer (some ⟨g, l * 3 + 2, none⟩)), x76, x77, x78, x79, (by simp only [Act.put, List.setIfInBounds_toArray, List.set_cons_zero, List.set_cons_succ]), ⟨(fun g7 => absurd (hlL.symm.trans g7) Bool.false_ne_true), hr.cu, hr.tu, (fun g7 => absurd (hlL.symm.trans g7) Bool.false_ne_true), hr.f0, hr.f1, hr.f2, hr.f3, hr.f4, hr.f5, hr.f6, hr.f7, hr.f8, hr.f9, (fun _ => rfl), hr.f11, hr.f12, hr.f13, hr.f14⟩⟩ (if_pos rfl) (fun j hj => if_neg hj)
      · revert hK
        obtain rfl := Option.some.inj ho
        have g10 : ℓ 10 = true := hdep { on := 10, ground := Ground.data } (by simp) rfl
        clear hdep ho
        have hlL : ℓ 15 = false := by
          cases h7 : ℓ 15
          · rfl
          · have := (hr.cl h7).2.2.2.2.2.2.2.2.2.2.2.1; rw [this] at hL; cases hL
        have hlG := hlL
        have hc := hr.cu hlG
        have ht := hr.tu hlG
        obtain rfl := hr.f10 g10
        intro hK
        rw [if_pos (by rfl)]
        try simp only [Act.put, List.setIfInBounds_toArray, List.set_cons_zero, List.set_cons_succ]
        have cc := (show w'.cell? ⟨g, l * 3 + 2, none⟩ = some (.int .i64 s2) from by rw [← HS2.out]; exact (HAN.out.turn HAB.out hc ht).o.sat HSA.out l hls 2 (by decide) rfl)
        go_simp
        exact hK.out _ _ (fun j => if j = 11 then true else ℓ j) ⟨x65, x66, x67, x68, x69, x70, x71, x72, x73, x74, (.pointer (some ⟨g, l * 3 + 2, none⟩)), (.int .i64 s2), x77, x78, x79, (by simp only [Act.put, List.setIfInBounds_toArray, List.set_cons_zero, List.set_cons_succ]), ⟨(fun g7 => absurd (hlL.symm.trans g7) Bool.false_ne_true), hr.cu, hr.tu, (fun g7 => absurd (hlL.symm.trans g7) Bool.false_ne_true), hr.f0, hr.f1, hr.f2, hr.f3, hr.f4, hr.f5, hr.f6, hr.f7, hr.f8, hr.f9, hr.f10, (fun _ => rfl), hr.f12, hr.f13, hr.f14⟩⟩ (if_pos rfl) (fun j hj => if_neg hj)
      · revert hK
        obtain rfl := Option.some.inj ho
        have g5 : ℓ 5 = true := hdep { on := 5, ground := Ground.data } (by simp) rfl
        have g11 : ℓ 11 = true := hdep { on := 11, ground := Ground.data } (by simp) rfl
        clear hdep ho
        have hlL : ℓ 15 = false := by
          cases h7 : ℓ 15
          · rfl
          · have := (hr.cl h7).2.2.2.2.2.2.2.2.2.2.2.2.1; rw [this] at hL; cases hL
        have hlG := hlL
        have hc := hr.cu hlG
        have ht := hr.tu hlG
        obtain rfl := hr.f5 g5
        obtain rfl := hr.f11 g11
        intro hK
        rw [if_pos (by rfl)]
        try simp only [Act.put, List.setIfInBounds_toArray, List.set_cons_zero, List.set_cons_succ]
        go_simp
        exact hK.out _ _ (fun j => if j = 12 then true else ℓ j) ⟨x65, x66, x67, x68, x69, (.int .i64 s1), x71, x72, x73, x74, x75, (.int .i64 s2), (.int .i64 (IntKind.i64.wrap (s1 + s2))), x78, x79, (by simp only [Act.put, List.setIfInBounds_toArray, List.set_cons_zero, List.set_cons_succ]), ⟨(fun g7 => absurd (hlL.symm.trans g7) Bool.false_ne_true), hr.cu, hr.tu, (fun g7 => absurd (hlL.symm.trans g7) Bool.false_ne_true), hr.f0, hr.f1, hr.f2, hr.f3, hr.f4, hr.f5, hr.f6, hr.f7, hr.f8, hr.f9, hr.f10, hr.f11, (fun _ => rfl), hr.f13, hr.f14⟩⟩ (if_pos rfl) (fun j hj => if_neg hj)
      · revert hK
        obtain rfl := Option.some.inj ho
        have g12 : ℓ 12 = true := hdep { on := 12, ground := Ground.data } (by simp) rfl
        clear hdep ho
        have hlL : ℓ 15 = false := by
          cases h7 : ℓ 15
          · rfl
          · have := (hr.cl h7).2.2.2.2.2.2.2.2.2.2.2.2.2.1; rw [this] at hL; cases hL
        have hlG := hlL
        have hc := hr.cu hlG
        have ht := hr.tu hlG
        obtain rfl := hr.f12 g12
        intro hK
        rw [if_pos (by rfl)]
        try simp only [Act.put, List.setIfInBounds_toArray, List.set_cons_zero, List.set_cons_succ]
        go_simp
        exact hK.out _ _ (fun j => if j = 13 then true else ℓ j) ⟨x65, x66, x67, x68, x69, x70, x71, x72, x73, x74, x75, x76, (.int .i64 (IntKind.i64.wrap (s1 + s2))), (.int .i64 (IntKind.i64.wrap (IntKind.i64.wrap (s1 + s2) - 1))), x79, (by simp only [Act.put, List.setIfInBounds_toArray, List.set_cons_zero, List.set_cons_succ]), ⟨(fun g7 => absurd (hlL.symm.trans g7) Bool.false_ne_true), hr.cu, hr.tu, (fun g7 => absurd (hlL.symm.trans g7) Bool.false_ne_true), hr.f0, hr.f1, hr.f2, hr.f3, hr.f4, hr.f5, hr.f6, hr.f7, hr.f8, hr.f9, hr.f10, hr.f11, hr.f12, (fun _ => rfl), hr.f14⟩⟩ (if_pos rfl) (fun j hj => if_neg hj)
      · revert hK
        obtain rfl := Option.some.inj ho
        have g0 : ℓ 0 = true := hdep { on := 0, ground := Ground.phase } (by simp) rfl
        have g1 : ℓ 1 = true := hdep { on := 1, ground := Ground.phase } (by simp) rfl
        have g2 : ℓ 2 = true := hdep { on := 2, ground := Ground.phase } (by simp) rfl
        have g3 : ℓ 3 = true := hdep { on := 3, ground := Ground.phase } (by simp) rfl
        have g4 : ℓ 4 = true := hdep { on := 4, ground := Ground.phase } (by simp) rfl
        have g5 : ℓ 5 = true := hdep { on := 5, ground := Ground.phase } (by simp) rfl
        have g6 : ℓ 6 = true := hdep { on := 6, ground := Ground.phase } (by simp) rfl
        have g7 : ℓ 7 = true := hdep { on := 7, ground := Ground.phase } (by simp) rfl
        have g8 : ℓ 8 = true := hdep { on := 8, ground := Ground.phase } (by simp) rfl
        have g9 : ℓ 9 = true := hdep { on := 9, ground := Ground.phase } (by simp) rfl
        have g10 : ℓ 10 = true := hdep { on := 10, ground := Ground.phase } (by simp) rfl
        have g11 : ℓ 11 = true := hdep { on := 11, ground := Ground.phase } (by simp) rfl
        have g12 : ℓ 12 = true := hdep { on := 12, ground := Ground.phase } (by simp) rfl
        have g13 : ℓ 13 = true := hdep { on := 13, ground := Ground.phase } (by simp) rfl
        clear hdep ho
        have hlL : ℓ 15 = false := by
          cases h7 : ℓ 15
          · rfl
          · have := (hr.cl h7).2.2.2.2.2.2.2.2.2.2.2.2.2.2.1; rw [this] at hL; cases hL
        have hlG := hlL
        have hc := hr.cu hlG
        have ht := hr.tu hlG
        intro hK
        rw [if_pos (by rfl)]
        try simp only [Act.put, List.setIfInBounds_toArray, List.set_cons_zero, List.set_cons_succ]
        go_simp
        exact hK.out _ _ (fun j => if j = 14 then true else ℓ j) ⟨x65, x66, x67, x68, x69, x70, x71, x72, x73, x74, x75, x76, x77, x78, (.pointer (some ⟨VB, 14, none⟩)), (by simp only [Act.put, List.setIfInBounds_toArray, List.set_cons_zero, List.set_cons_succ]), ⟨(fun g7 => absurd (hlL.symm.trans g7) Bool.false_ne_true), hr.cu, hr.tu, (fun g7 => absurd (hlL.symm.trans g7) Bool.false_ne_true), hr.f0, hr.f1, hr.f2, hr.f3, hr.f4, hr.f5, hr.f6, hr.f7, hr.f8, hr.f9, hr.f10, hr.f11, hr.f12, hr.f13, (fun _ => rfl)⟩⟩ (if_pos rfl) (fun j hj => if_neg hj)
      · revert hK
        obtain rfl := Option.some.inj ho
        have g14 : ℓ 14 = true := hdep { on := 14, ground := Ground.data } (by simp) rfl
        have g13 : ℓ 13 = true := hdep { on := 13, ground := Ground.data } (by simp) rfl
        have g0 : ℓ 0 = true := hdep { on := 0, ground := Ground.phase } (by simp) rfl
        have g1 : ℓ 1 = true := hdep { on := 1, ground := Ground.phase } (by simp) rfl
        have g2 : ℓ 2 = true := hdep { on := 2, ground := Ground.phase } (by simp) rfl
        have g3 : ℓ 3 = true := hdep { on := 3, ground := Ground.phase } (by simp) rfl
        have g4 : ℓ 4 = true := hdep { on := 4, ground := Ground.phase } (by simp) rfl
        have g5 : ℓ 5 = true := hdep { on := 5, ground := Ground.phase } (by simp) rfl
        have g6 : ℓ 6 = true := hdep { on := 6, ground := Ground.phase } (by simp) rfl
        have g7 : ℓ 7 = true := hdep { on := 7, ground := Ground.phase } (by simp) rfl
        have g8 : ℓ 8 = true := hdep { on := 8, ground := Ground.phase } (by simp) rfl
        have g9 : ℓ 9 = true := hdep { on := 9, ground := Ground.phase } (by simp) rfl
        have g10 : ℓ 10 = true := hdep { on := 10, ground := Ground.phase } (by simp) rfl
        have g11 : ℓ 11 = true := hdep { on := 11, ground := Ground.phase } (by simp) rfl
        have g12 : ℓ 12 = true := hdep { on := 12, ground := Ground.phase } (by simp) rfl
        clear hdep ho
        have hc := hr.cu hL
        have ht := hr.tu hL
        obtain rfl := hr.f14 g14
        obtain rfl := hr.f13 g13
        intro hK
        rw [if_pos (by rfl)]
        try simp only [Act.put, List.setIfInBounds_toArray, List.set_cons_zero, List.set_cons_succ]
        have cc := (HAN.out.turn HAB.out hc ht).rv.cell 14 rfl
        have cf := (HAN.out.turn HAB.out hc ht).rv.free 14
        go_simp
        exact hK.out _ _ (fun j => if j = 15 then true else ℓ j) ⟨x65, x66, x67, x68, x69, x70, x71, x72, x73, x74, x75, x76, x77, (.int .i64 (IntKind.i64.wrap (IntKind.i64.wrap (s1 + s2) - 1))), (.pointer (some ⟨VB, 14, none⟩)), (by simp only [Act.put, List.setIfInBounds_toArray, List.set_cons_zero, List.set_cons_succ]), ⟨(fun _ => ⟨g0, g1, g2, g3, g4, g5, g6, g7, g8, g9, g10, g11, g12, g13, g14, trivial⟩), (fun g => by cases g), (fun g => by cases g), (fun _ => ⟨w', hc, ht, rfl⟩), hr.f0, hr.f1, hr.f2, hr.f3, hr.f4, hr.f5, hr.f6, hr.f7, hr.f8, hr.f9, hr.f10, hr.f11, hr.f12, hr.f13, hr.f14⟩⟩ (if_pos rfl) (fun j hj => if_neg hj)
    · rintro a' w' ℓ ℓ' hℓ hI
      rw [← show ℓ = ℓ' from funext hℓ]
      exact hI
  · clear hx0 hx1
    have hp2 : 2 ≤ ad.pn := by have := HDT.out.n; have := HAN.out.w.pl; omega
    have hp0 : 0 < ad.pn := by omega
    have hpi : (0 : Int) < (ad.pn : Int) := by omega
    obtain ⟨g, hpa⟩ := HAN.out.o.pab hp0
    have HPA : Hid (ad.pa = some ⟨g, 0, none⟩) := hpa
    have v15q : w4.cell? ⟨VB, 15, none⟩ = some (.slice (some ⟨g, 0, none⟩) ad.pn ad.pc) := by rw [← hpa]; exact HAN.out.rv.cell 15 rfl
    clear hpa
    clear v15q
    have hpi1 : (1 : Int) < (ad.pn : Int) := by omega
    have hp1 : 1 < ad.pn := by omega
    have HCU0 : Hid (Cur w4 B a zs cap) := HAN.out.ct.cur
    have HBW : Hid (B < w4.heap.size) := HAN.out.ct.cur.lt
    go_wp2
    refine wp_region_inv (by kernel_rfl) (by kernel_rfl) (fun AC ℓ a' w' => ∃ (x82 x83 x84 x85 x86 x87 x88 : Value), a' = (((((((AC.put (some 82) x82).put (some 83) x83).put (some 84) x84).put (some 85) x85).put (some 86) x86).put (some 87) x87).put (some 88) x88) ∧ D7 (w4) B a zs cap (⟨g, 0, none⟩) VB g ad w' (ℓ 0) (ℓ 1) (ℓ 2) (ℓ 3) (ℓ 4) (ℓ 5) (ℓ 6) (ℓ 7) x82 x83 x84 x85 x86 x87 x88) ?_ ?_ ?_ ?_
    · exact ⟨undef, undef, undef, undef, undef, undef, undef, (by simp only [Act.put, List.setIfInBounds_toArray, List.set_cons_zero, List.set_cons_succ]), ⟨(fun g => by cases g), (fun _ => HCU0.out.drewN 1), (fun _ => (Turn.refl _ _).drewN 1), (fun g => by cases g), (fun g => by cases g), (fun g => by cases g), (fun g => by cases g), (fun g => by cases g), (fun g => by cases g), (fun g => by cases g), (fun g => by cases g), (fun g => by cases g)⟩⟩
    · intro ℓ a' w' hI hall
      obtain ⟨x82, x83, x84, x85, x86, x87, x88, rfl, hr⟩ := hI
      have hall' : ∀ i, i < 8 → ℓ i = true := hall
      obtain ⟨V, hcV, htV, rfl⟩ := hr.la (hall' 7 (by decide))
      obtain rfl := hr.f0 (hall' 0 (by decide))
      obtain rfl := hr.f1 (hall' 1 (by decide))
      obtain rfl := hr.f2 (hall' 2 (by decide))
      obtain ⟨yy4, rfl, hyy4⟩ := hr.f4 (hall' 4 (by decide))
      obtain rfl := hr.f5 (hall' 5 (by decide))
      obtain rfl := hr.f6 (hall' 6 (by decide))
      clear hr hall hall'
      simp only [Act.put, List.setIfInBounds_toArray, List.set_cons_zero, List.set_cons_succ]
      have HA6 : Hid (AN w V B a zs cap VB lo t ad) := HAN.out.turn HAB.out hcV htV
      have hys : yy4.size ≤ 1048576 := by
        simp only [List.mem_cons, List.not_mem_nil, or_false] at hyy4
        rcases hyy4 with rfl | rfl | rfl | rfl <;> decide
      obtain ⟨g', e', hfz, hcl, T9, A9, hT9, HA⟩ := HA6.out.setp HAB.out 0 0 hp0 (by decide) (.string yy4) ({ ad.Y 0 with nm := yy4 }) ({ t.ps.getD 0 pt0 with nm := yy4 }) rfl (by have q := HA6.out.o.pw 0 hp0; exact ⟨rfl, q.en, q.kd, q.ms, q.ln, q.cp⟩) (.inl ⟨rfl, rfl, rfl⟩) hys (.inl rfl)
      rw [HPA.out] at e'
      cases e'
      have HA7 : Hid (AN w (V.setCell ⟨g, 0, none⟩ (.string yy4)) B a zs cap VB lo T9 A9) := HA
      have c9 : V.cell? ⟨g, 0, none⟩ = some (.string (ad.Y 0).nm) := hcl _ rfl
      have f9 : V.frozen? ⟨g, 0, none⟩ = false := hfz _
      clear hfz hcl HA hT9
      have HBE : Hid _ := HA7.out.fin HAB.out.b HAB.out.l
      have HBR : Hid _ := HA7.out.rv
      have HB0 : Hid _ := HA7.out.r0
      have HBX : Hid (DA w (World.setRow (V.setCell ⟨g, 0, none⟩ (.string yy4)) w.heap.size (tbA T9 A9)) B a zs cap T9 A9) := ⟨HBE.out.2.1, HA7.out.w, HA7.out.s, HA7.out.c1, HA7.out.c2, HA7.out.p2, HBE.out.2.2.1, HBE.out.2.2.2⟩
      go_wp2_with (first | (refine wpList_load_row rfl 33 (.tmp 3) rfl VB rfl 33 (tbA T9 A9) (0, 0) _ HBR.out Tryz.underlying33 rfl (by kernel_rfl) ?_) | (refine wpList_store_row rfl 33 (.tmp 2) (.tmp 213) rfl w.heap.size (tbA T9 A9) rfl rfl 33 (#[.int .i64 0, .int .i64 0, .int .i64 0, .int .i64 0, .int .i64 0, .int .i64 0, .int .i64 0, .int .i64 0, .int .i64 0, .int .i64 0, .int .i64 0, .int .i64 0, .int .i64 0, .int .i64 0, .int .i64 0, .slice none 0 0, .slice none 0 0, .slice none 0 0, .slice none 0 0]) HB0.out (by kernel_rfl) rfl (by simp [Value.oneCell']) ?_) | fail)
      refine bodyPost_ret (v := tbV T9 A9) (res_any HBE.out.1 rfl rfl) rfl ⟨T9, A9, rfl, HBX.out⟩
    · intro ℓ a' w' i o hI ho hi hL hdep K hK
      obtain ⟨x82, x83, x84, x85, x86, x87, x88, rfl, hr⟩ := hI
      have hi7 : i < 8 := hi
      have hcs : i = 0 ∨ i = 1 ∨ i = 2 ∨ i = 3 ∨ i = 4 ∨ i = 5 ∨ i = 6 ∨ i = 7 := by omega
      clear hi hi7
      rcases hcs with rfl | rfl | rfl | rfl | rfl | rfl | rfl | rfl
      · revert hK
        obtain rfl := Option.some.inj ho
        clear hdep ho
        have hlL : ℓ 7 = false := by
          cases h7 : ℓ 7
          · rfl
          · have := (hr.cl h7).1; rw [this] at hL; cases hL
        have hlG := hlL
        have hc := hr.cu hlG
        have ht := hr.tu hlG
        intro hK
        rw [if_pos (by rfl)]
        try simp only [Act.put, List.setIfInBounds_toArray, List.set_cons_zero, List.set_cons_succ]
        go_simp
        exact hK.out _ _ (fun j => if j = 0 then true else ℓ j) ⟨(.pointer (some ⟨VB, 15, none⟩)), x83, x84, x85, x86, x87, x88, (by simp only [Act.put, List.setIfInBounds_toArray, List.set_cons_zero, List.set_cons_succ]), ⟨(fun g7 => absurd (hlL.symm.trans g7) Bool.false_ne_true), hr.cu, hr.tu, (fun g7 => absurd (hlL.symm.trans g7) Bool.false_ne_true), hr.k6, (fun _ => rfl), hr.f1, hr.f2, hr.f3, hr.f4, hr.f5, hr.f6⟩⟩ (if_pos rfl) (fun j hj => if_neg hj)
      · revert hK
        obtain rfl := Option.some.inj ho
        have g0 : ℓ 0 = true := hdep { on := 0, ground := Ground.data } (by simp) rfl
        clear hdep ho
        have hlL : ℓ 7 = false := by
          cases h7 : ℓ 7
          · rfl
          · have := (hr.cl h7).2.1; rw [this] at hL; cases hL
        have hlG := hlL
        have hc := hr.cu hlG
        have ht := hr.tu hlG
        obtain rfl := hr.f0 g0
        intro hK
        rw [if_pos (by rfl)]
        try simp only [Act.put, List.setIfInBounds_toArray, List.set_cons_zero, List.set_cons_succ]
        have cc := (show w'.cell? ⟨VB, 15, none⟩ = some (.slice (some ⟨g, 0, none⟩) ad.pn ad.pc) from by rw [← HPA.out]; exact (HAN.out.turn HAB.out hc ht).rv.cell 15 rfl)
        go_simp
        exact hK.out _ _ (fun j => if j = 1 then true else ℓ j) ⟨(.pointer (some ⟨VB, 15, none⟩)), (.slice (some ⟨g, 0, none⟩) ad.pn ad.pc), x84, x85, x86, x87, x88, (by simp only [Act.put, List.setIfInBounds_toArray, List.set_cons_zero, List.set_cons_succ]), ⟨(fun g7 => absurd (hlL.symm.trans g7) Bool.false_ne_true), hr.cu, hr.tu, (fun g7 => absurd (hlL.symm.trans g7) Bool.false_ne_true), hr.k6, hr.f0, (fun _ => rfl), hr.f2, hr.f3, hr.f4, hr.f5, hr.f6⟩⟩ (if_pos rfl) (fun j hj => if_neg hj)
      · revert hK
        obtain rfl := Option.some.inj ho
        clear hdep ho
        have hlL : ℓ 7 = false := by
          cases h7 : ℓ 7
          · rfl
          · have := (hr.cl h7).2.2.1; rw [this] at hL; cases hL
        have hlG := hlL
        have hc := hr.cu hlG
        have ht := hr.tu hlG
        intro hK
        rw [if_pos (by rfl)]
        try simp only [Act.put, List.setIfInBounds_toArray, List.set_cons_zero, List.set_cons_succ]
        go_simp
        exact hK.out _ _ (fun j => if j = 2 then true else ℓ j) ⟨x82, x83, (.pointer (some ⟨B, 0, none⟩)), x85, x86, x87, x88, (by simp only [Act.put, List.setIfInBounds_toArray, List.set_cons_zero, List.set_cons_succ]), ⟨(fun g7 => absurd (hlL.symm.trans g7) Bool.false_ne_true), hr.cu, hr.tu, (fun g7 => absurd (hlL.symm.trans g7) Bool.false_ne_true), hr.k6, hr.f0, hr.f1, (fun _ => rfl), hr.f3, hr.f4, hr.f5, hr.f6⟩⟩ (if_pos rfl) (fun j hj => if_neg hj)
      · revert hK
        obtain rfl := Option.some.inj ho
        clear hdep ho
        have hlL : ℓ 7 = false := by
          cases h7 : ℓ 7
          · rfl
          · have := (hr.cl h7).2.2.2.1; rw [this] at hL; cases hL
        have hlG := hlL
        have hc := hr.cu hlG
        have ht := hr.tu hlG
        intro hK
        rw [if_pos (by rfl)]
        try simp only [Act.put, List.setIfInBounds_toArray, List.set_cons_zero, List.set_cons_succ]
        have hbA : Below w'.heap.size w' (w'.alloc (.cells #[.string ⟨#[98, 101, 116, 97]⟩, .string ⟨#[]⟩, .string ⟨#[97, 98, 99, 100, 101, 102, 103, 104, 105]⟩, .string ⟨#[65, 108, 112, 104, 97]⟩] 9)) := (Below.refl _ _).alloc (Nat.le_refl _) _
        have htA := Turn.of_below (B := B) hbA
        go_simp
        exact hK.out _ _ (fun j => if j = 3 then true else ℓ j) ⟨x82, x83, x84, (.slice (some ⟨w'.heap.size, 0, none⟩) 4 4), x86, x87, x88, (by simp only [Act.put, List.setIfInBounds_toArray, List.set_cons_zero, List.set_cons_succ]), ⟨(fun g7 => absurd (hlL.symm.trans g7) Bool.false_ne_true), (fun _ => hc.below hbA), (fun _ => ht.trans htA), (fun g7 => absurd (hlL.symm.trans g7) Bool.false_ne_true), hr.k6, hr.f0, hr.f1, hr.f2, (fun _ _ => ⟨w'.heap.size, rfl, ht.size, Bk.new w' _ _ _ rfl⟩), hr.f4, hr.f5, hr.f6⟩⟩ (if_pos rfl) (fun j hj => if_neg hj)
      · revert hK
        obtain rfl := Option.some.inj ho
        have g2 : ℓ 2 = true := hdep { on := 2, ground := Ground.data } (by simp) rfl
        have g3 : ℓ 3 = true := hdep { on := 3, ground := Ground.data } (by simp) rfl
        clear hdep ho
        have hlL : ℓ 7 = false := by
          cases h7 : ℓ 7
          · rfl
          · have := (hr.cl h7).2.2.2.2.1; rw [this] at hL; cases hL
        have hlG := hlL
        have hc := hr.cu hlG
        have ht := hr.tu hlG
        obtain rfl := hr.f2 g2
        obtain ⟨g, rfl, hgg, hgo⟩ := hr.f3 g3 hlG
        intro hK
        rw [if_pos (by rfl)]
        try simp only [Act.put, List.setIfInBounds_toArray, List.set_cons_zero, List.set_cons_succ]
        go_simp
        refine (draw_picks w' B g a zs cap [⟨#[98, 101, 116, 97]⟩, ⟨#[]⟩, ⟨#[97, 98, 99, 100, 101, 102, 103, 104, 105]⟩, ⟨#[65, 108, 112, 104, 97]⟩] hc hgo (by have := HBW.out; omega) (by simp) (by simp)).mono ?_
        rintro e w9 ⟨y, rfl, hyy, hc9, ht9⟩
        exact hK.out _ _ (fun j => if j = 4 then true else ℓ j) ⟨x82, x83, (.pointer (some ⟨B, 0, none⟩)), (.slice (some ⟨g, 0, none⟩) 4 4), (.string y), x87, x88, (by simp only [Act.put, List.setIfInBounds_toArray, List.set_cons_zero, List.set_cons_succ]), ⟨(fun g7 => absurd (hlL.symm.trans g7) Bool.false_ne_true), (fun _ => hc9), (fun _ => ht.trans ht9), (fun g7 => absurd (hlL.symm.trans g7) Bool.false_ne_true), hr.k6, hr.f0, hr.f1, hr.f2, (fun e1 e2 => by obtain ⟨g3, q1, q2, q3⟩ := hr.f3 e1 hlG; exact ⟨g3, q1, q2, (q3.turn ht9 (by have := HBW.out; omega))⟩), (fun _ => ⟨y, rfl, hyy⟩), hr.f5, hr.f6⟩⟩ (if_pos rfl) (fun j hj => if_neg hj)
      · revert hK
        obtain rfl := Option.some.inj ho
        have g1 : ℓ 1 = true := hdep { on := 1, ground := Ground.data } (by simp) rfl
        have g0 : ℓ 0 = true := hdep { on := 0, ground := Ground.phase } (by simp) rfl
        have g2 : ℓ 2 = true := hdep { on := 2, ground := Ground.phase } (by simp) rfl
        have g3 : ℓ 3 = true := hdep { on := 3, ground := Ground.phase } (by simp) rfl
        have g4 : ℓ 4 = true := hdep { on := 4, ground := Ground.phase } (by simp) rfl
        clear hdep ho
        have hlL : ℓ 7 = false := by
          cases h7 : ℓ 7
          · rfl
          · have := (hr.cl h7).2.2.2.2.2.1; rw [this] at hL; cases hL
        have hlG := hlL
        have hc := hr.cu hlG
        have ht := hr.tu hlG
        obtain rfl := hr.f1 g1
        intro hK
        rw [if_pos (by rfl)]
        try simp only [Act.put, List.setIfInBounds_toArray, List.set_cons_zero, List.set_cons_succ]
        go_simp
        exact hK.out _ _ (fun j => if j = 5 then true else ℓ j) ⟨x82, (.slice (some ⟨g, 0, none⟩) ad.pn ad.pc), x84, x85, x86, (.pointer (some ⟨g, 0, none⟩)), x88, (by simp only [Act.put, List.setIfInBounds_toArray, List.set_cons_zero, List.set_cons_succ]), ⟨(fun g7 => absurd (hlL.symm.trans g7) Bool.false_ne_true), hr.cu, hr.tu, (fun g7 => absurd (hlL.symm.trans g7) Bool.false_ne_true), (fun g7 => ⟨rfl, trivial⟩), hr.f0, hr.f1, hr.f2, hr.f3, hr.f4, (fun _ => rfl), hr.f6⟩⟩ (if_pos rfl) (fun j hj => if_neg hj)
      · revert hK
        obtain rfl := Option.some.inj ho
        have g5 : ℓ 5 = true := hdep { on := 5, ground := Ground.data } (by simp) rfl
        have g0 : ℓ 0 = true := hdep { on := 0, ground := Ground.phase } (by simp) rfl
        have g1 : ℓ 1 = true := hdep { on := 1, ground := Ground.phase } (by simp) rfl
        have g2 : ℓ 2 = true := hdep { on := 2, ground := Ground.phase } (by simp) rfl
        have g3 : ℓ 3 = true := hdep { on := 3, ground := Ground.phase } (by simp) rfl
        have g4 : ℓ 4 = true := hdep { on := 4, ground := Ground.phase } (by simp) rfl
        clear hdep ho
        have hlL : ℓ 7 = false := by
          cases h7 : ℓ 7
          · rfl
          · have := (hr.cl h7).2.2.2.2.2.2.1; rw [this] at hL; cases hL
        have hlG := hlL
        have hc := hr.cu hlG
        have ht := hr.tu hlG
        obtain rfl := hr.f5 g5
        intro hK
        rw [if_pos (by rfl)]
        try simp only [Act.put, List.setIfInBounds_toArray, List.set_cons_zero, List.set_cons_succ]
        go_simp
        exact hK.out _ _ (fun j => if j = 6 then true else ℓ j) ⟨x82, x83, x84, x85, x86, (.pointer (some ⟨g, 0, none⟩)), (.pointer (some ⟨g, 0, none⟩)), (by simp only [Act.put, List.setIfInBounds_toArray, List.set_cons_zero, List.set_cons_succ]), ⟨(fun g7 => absurd (hlL.symm.trans g7) Bool.false_ne_true), hr.cu, hr.tu, (fun g7 => absurd (hlL.symm.trans g7) Bool.false_ne_true), (fun _ => ⟨g5, trivial⟩), hr.f0, hr.f1, hr.f2, hr.f3, hr.f4, hr.f5, (fun _ => rfl)⟩⟩ (if_pos rfl) (fun j hj => if_neg hj)
      · revert hK
        obtain rfl := Option.some.inj ho
        have g6 : ℓ 6 = true := hdep { on := 6, ground := Ground.data } (by simp) rfl
        have g4 : ℓ 4 = true := hdep { on := 4, ground := Ground.data } (by simp) rfl
        have g0 : ℓ 0 = true := hdep { on := 0, ground := Ground.phase } (by simp) rfl
        have g1 : ℓ 1 = true := hdep { on := 1, ground := Ground.phase } (by simp) rfl
        have g2 : ℓ 2 = true := hdep { on := 2, ground := Ground.phase } (by simp) rfl
        have g3 : ℓ 3 = true := hdep { on := 3, ground := Ground.phase } (by simp) rfl
        clear hdep ho
        have hc := hr.cu hL
        have ht := hr.tu hL
        obtain rfl := hr.f6 g6
        obtain ⟨y, rfl, hyy⟩ := hr.f4 g4
        intro hK
        rw [if_pos (by rfl)]
        try simp only [Act.put, List.setIfInBounds_toArray, List.set_cons_zero, List.set_cons_succ]
        have cc := (show w'.cell? ⟨g, 0, none⟩ = some (.string (ad.Y 0).nm) from (HAN.out.turn HAB.out hc ht).o.pat HPA.out 0 hp0 0 (by decide) rfl)
        have cf := (HAN.out.turn HAB.out hc ht).o.pfr HPA.out hp0 0
        go_simp
        exact hK.out _ _ (fun j => if j = 7 then true else ℓ j) ⟨x82, x83, x84, x85, (.string y), x87, (.pointer (some ⟨g, 0, none⟩)), (by simp only [Act.put, List.setIfInBounds_toArray, List.set_cons_zero, List.set_cons_succ]), ⟨(fun _ => ⟨g0, g1, g2, g3, g4, (hr.k6 g6).1, g6, trivial⟩), (fun g => by cases g), (fun g => by cases g), (fun _ => ⟨w', hc, ht, rfl⟩), hr.k6, hr.f0, hr.f1, hr.f2, (fun _ e2 => by cases e2), hr.f4, hr.f5, hr.f6⟩⟩ (if_pos rfl) (fun j hj => if_neg hj)
    · rintro a' w' ℓ ℓ' hℓ hI
      rw [← show ℓ = ℓ' from funext hℓ]
      exact hI
  · clear hx0 hx1
    have hp2 : 2 ≤ ad.pn := by have := HDT.out.n; have := HAN.out.w.pl; omega
    have hp0 : 0 < ad.pn := by omega
    have hpi : (0 : Int) < (ad.pn : Int) := by omega
    obtain ⟨g, hpa⟩ := HAN.out.o.pab hp0
    have HPA : Hid (ad.pa = some ⟨g, 0, none⟩) := hpa
    have v15q : w4.cell? ⟨VB, 15, none⟩ = some (.slice (some ⟨g, 0, none⟩) ad.pn ad.pc) := by rw [← hpa]; exact HAN.out.rv.cell 15 rfl
    clear hpa
    clear v15q
    have hpi1 : (1 : Int) < (ad.pn : Int) := by omega
    have hp1 : 1 < ad.pn := by omega
    obtain ⟨en, HEN⟩ : ∃ v, Hid ((ad.Y 0).en = v) := ⟨_, rfl⟩
    have HCU0 : Hid (Cur w4 B a zs cap) := HAN.out.ct.cur
    have HBW : Hid (B < w4.heap.size) := HAN.out.ct.cur.lt
    go_wp2
    refine wp_region_inv (by kernel_rfl) (by kernel_rfl) (fun AC ℓ a' w' => ∃ (x91 x92 x93 x94 x95 x96 x97 x98 x99 x100 x101 x102 x103 : Value), a' = (((((((((((((AC.put (some 91) x91).put (some 92) x92).put (some 93) x93).put (some 94) x94).put (some 95) x95).put (some 96) x96).put (some 97) x97).put (some 98) x98).put (some 99) x99).put (some 100) x100).put (some 101) x101).put (some 102) x102).put (some 103) x103) ∧ D8 (w4) B a zs cap (⟨g, 1, none⟩) VB g ad en w' (ℓ 0) (ℓ 1) (ℓ 2) (ℓ 3) (ℓ 4) (ℓ 5) (ℓ 6) (ℓ 7) (ℓ 8) (ℓ 9) (ℓ 10) (ℓ 11) (ℓ 12) (ℓ 13) x91 x92 x93 x94 x95 x96 x97 x98 x99 x100 x101 x102 x103) ?_ ?_ ?_ ?_
    · exact ⟨undef, undef, undef, undef, undef, undef, undef, undef, undef, undef, undef, undef, undef, (by simp only [Act.put, List.setIfInBounds_toArray, List.set_cons_zero, List.set_cons_succ]), ⟨(fun g => by cases g), (fun _ => HCU0.out.drewN 1), (fun _ => (Turn.refl _ _).drewN 1), (fun g => by cases g), (fun g => by cases g), (fun g => by cases g), (fun g => by cases g), (fun g => by cases g), (fun g => by cases g), (fun g => by cases g), (fun g => by cases g), (fun g => by cases g), (fun g => by cases g), (fun g => by cases g), (fun g => by cases g), (fun g => by cases g), (fun g => by cases g), (fun g => by cases g), (fun g => by cases g)⟩⟩
    · intro ℓ a' w' hI hall
      obtain ⟨x91, x92, x93, x94, x95, x96, x97, x98, x99, x100, x101, x102, x103, rfl, hr⟩ := hI
      have hall' : ∀ i, i < 14 → ℓ i = true := hall
      obtain ⟨V, hcV, htV, rfl⟩ := hr.la (hall' 13 (by decide))
      obtain rfl := hr.f0 (hall' 0 (by decide))
      obtain rfl := hr.f1 (hall' 1 (by decide))
      obtain rfl := hr.f2 (hall' 2 (by decide))
      obtain rfl := hr.f3 (hall' 3 (by decide))
      obtain rfl := hr.f4 (hall' 4 (by decide))
      obtain rfl := hr.f5 (hall' 5 (by decide))
      obtain rfl := hr.f6 (hall' 6 (by decide))
      obtain rfl := hr.f7 (hall' 7 (by decide))
      obtain ⟨yy9, rfl, hyy9⟩ := hr.f9 (hall' 9 (by decide))
      obtain ⟨yf10, ef10, rfl⟩ := hr.f10 (hall' 10 (by decide))
      cases ef10
      obtain rfl := hr.f11 (hall' 11 (by decide))
      obtain rfl := hr.f12 (hall' 12 (by decide))
      clear hr hall hall'
      simp only [Act.put, List.setIfInBounds_toArray, List.set_cons_zero, List.set_cons_succ]
      have HA6 : Hid (AN w V B a zs cap VB lo t ad) := HAN.out.turn HAB.out hcV htV
      obtain ⟨g', e', hfz, hcl, T9, A9, hT9, HA⟩ := HA6.out.setp HAB.out 0 1 hp0 (by decide) (.int .i64 (IntKind.i64.wrap (en + yy9))) ({ ad.Y 0 with en := IntKind.i64.wrap (en + yy9) }) ({ t.ps.getD 0 pt0 with en := IntKind.i64.wrap (en + yy9) }) rfl (by have q := HA6.out.o.pw 0 hp0; exact ⟨q.nm, rfl, q.kd, q.ms, q.ln, q.cp⟩) (.inl ⟨rfl, rfl, rfl⟩) (by have := HA6.out.s.w 0 hp0; show _ ≤ 1048576; first | exact this.2 | simp) (.inl rfl)
      rw [HPA.out] at e'
      cases e'
      have HA7 : Hid (AN w (V.setCell ⟨g, 1, none⟩ (.int .i64 (IntKind.i64.wrap (en + yy9)))) B a zs cap VB lo T9 A9) := HA
      have c9 : V.cell? ⟨g, 1, none⟩ = some (.int .i64 (ad.Y 0).en) := hcl _ rfl
      have f9 : V.frozen? ⟨g, 1, none⟩ = false := hfz _
      clear hfz hcl HA hT9
      have HBE : Hid _ := HA7.out.fin HAB.out.b HAB.out.l
      have HBR : Hid _ := HA7.out.rv
      have HB0 : Hid _ := HA7.out.r0
      have HBX : Hid (DA w (World.setRow (V.setCell ⟨g, 1, none⟩ (.int .i64 (IntKind.i64.wrap (en + yy9)))) w.heap.size (tbA T9 A9)) B a zs cap T9 A9) := ⟨HBE.out.2.1, HA7.out.w, HA7.out.s, HA7.out.c1, HA7.out.c2, HA7.out.p2, HBE.out.2.2.1, HBE.out.2.2.2⟩
      go_wp2_with (first | (refine wpList_load_row rfl 33 (.tmp 3) rfl VB rfl 33 (tbA T9 A9) (0, 0) _ HBR.out Tryz.underlying33 rfl (by kernel_rfl) ?_) | (refine wpList_store_row rfl 33 (.tmp 2) (.tmp 213) rfl w.heap.size (tbA T9 A9) rfl rfl 33 (#[.int .i64 0, .int .i64 0, .int .i64 0, .int .i64 0, .int .i64 0, .int .i64 0, .int .i64 0, .int .i64 0, .int .i64 0, .int .i64 0, .int .i64 0, .int .i64 0, .int .i64 0, .int .i64 0, .int .i64 0, .slice none 0 0, .slice none 0 0, .slice none 0 0, .slice none 0 0]) HB0.out (by kernel_rfl) rfl (by simp [Value.oneCell']) ?_) | fail)
      refine bodyPost_ret (v := tbV T9 A9) (res_any HBE.out.1 rfl rfl) rfl ⟨T9, A9, rfl, HBX.out⟩
    · intro ℓ a' w' i o hI ho hi hL hdep K hK
      obtain ⟨x91, x92, x93, x94, x95, x96, x97, x98, x99, x100, x101, x102, x103, rfl, hr⟩ := hI
      have hi7 : i < 14 := hi
      have hcs : i = 0 ∨ i = 1 ∨ i = 2 ∨ i = 3 ∨ i = 4 ∨ i = 5 ∨ i = 6 ∨ i = 7 ∨ i = 8 ∨ i = 9 ∨ i = 10 ∨ i = 11 ∨ i = 12 ∨ i = 13 := by omega
      clear hi hi7
      rcases hcs with rfl | rfl | rfl | rfl | rfl | rfl | rfl | rfl | rfl | rfl | rfl | rfl | rfl | rfl
      · revert hK
        obtain rfl := Option.some.inj ho
        clear hdep ho
        have hlL : ℓ 13 = false := by
          cases h7 : ℓ 13
          · rfl
          · have := (hr.cl h7).1; rw [this] at hL; cases hL
        have hlG := hlL
        have hc := hr.cu hlG
        have ht := hr.tu hlG
        intro hK
        rw [if_pos (by rfl)]
        try simp only [Act.put, List.setIfInBounds_toArray, List.set_cons_zero, List.set_cons_succ]
        go_simp
        exact hK.out _ _ (fun j => if j = 0 then true else ℓ j) ⟨(.pointer (some ⟨VB, 15, none⟩)), x92, x93, x94, x95, x96, x97, x98, x99, x100, x101, x102, x103, (by simp only [Act.put, List.setIfInBounds_toArray, List.set_cons_zero, List.set_cons_succ]), ⟨(fun g7 => absurd (hlL.symm.trans g7) Bool.false_ne_true), hr.cu, hr.tu, (fun g7 => absurd (hlL.symm.trans g7) Bool.false_ne_true), hr.k10, hr.k12, (fun _ => rfl), hr.f1, hr.f2, hr.f3, hr.f4, hr.f5, hr.f6, hr.f7, hr.f8, hr.f9, hr.f10, hr.f11, hr.f12⟩⟩ (if_pos rfl) (fun j hj => if_neg hj)
      · revert hK
        obtain rfl := Option.some.inj ho
        have g0 : ℓ 0 = true := hdep { on := 0, ground := Ground.data } (by simp) rfl
        clear hdep ho
        have hlL : ℓ 13 = false := by
          cases h7 : ℓ 13
          · rfl
          · have := (hr.cl h7).2.1; rw [this] at hL; cases hL
        have hlG := hlL
        have hc := hr.cu hlG
        have ht := hr.tu hlG
        obtain rfl := hr.f0 g0
        intro hK
        rw [if_pos (by rfl)]
        try simp only [Act.put, List.setIfInBounds_toArray, List.set_cons_zero, List.set_cons_succ]
        have cc := (show w'.cell? ⟨VB, 15, none⟩ = some (.slice (some ⟨g, 0, none⟩) ad.pn ad.pc) from by rw [← HPA.out]; exact (HAN.out.turn HAB.out hc ht).rv.cell 15 rfl)
        go_simp
        exact hK.out _ _ (fun j => if j = 1 then true else ℓ j) ⟨(.pointer (some ⟨VB, 15, none⟩)), (.slice (some ⟨g, 0, none⟩) ad.pn ad.pc), x93, x94, x95, x96, x97, x98, x99, x100, x101, x102, x103, (by simp only [Act.put, List.setIfInBounds_toArray, List.set_cons_zero, List.set_cons_succ]), ⟨(fun g7 => absurd (hlL.symm.trans g7) Bool.false_ne_true), hr.cu, hr.tu, (fun g7 => absurd (hlL.symm.trans g7) Bool.false_ne_true), hr.k10, hr.k12, hr.f0, (fun _ => rfl), hr.f2, hr.f3, hr.f4, hr.f5, hr.f6, hr.f7, hr.f8, hr.f9, hr.f10, hr.f11, hr.f12⟩⟩ (if_pos rfl) (fun j hj => if_neg hj)
      · revert hK
        obtain rfl := Option.some.inj ho
        clear hdep ho
        have hlL : ℓ 13 = false := by
          cases h7 : ℓ 13
          · rfl
          · have := (hr.cl h7).2.2.1; rw [this] at hL; cases hL
        have hlG := hlL
        have hc := hr.cu hlG
        have ht := hr.tu hlG
        intro hK
        rw [if_pos (by rfl)]
        try simp only [Act.put, List.setIfInBounds_toArray, List.set_cons_zero, List.set_cons_succ]
        go_simp
        exact hK.out _ _ (fun j => if j = 2 then true else ℓ j) ⟨x91, x92, (.pointer (some ⟨VB, 15, none⟩)), x94, x95, x96, x97, x98, x99, x100, x101, x102, x103, (by simp only [Act.put, List.setIfInBounds_toArray, List.set_cons_zero, List.set_cons_succ]), ⟨(fun g7 => absurd (hlL.symm.trans g7) Bool.false_ne_true), hr.cu, hr.tu, (fun g7 => absurd (hlL.symm.trans g7) Bool.false_ne_true), hr.k10, hr.k12, hr.f0, hr.f1, (fun _ => rfl), hr.f3, hr.f4, hr.f5, hr.f6, hr.f7, hr.f8, hr.f9, hr.f10, hr.f11, hr.f12⟩⟩ (if_pos rfl) (fun j hj => if_neg hj)
      · revert hK
        obtain rfl := Option.some.inj ho
        have g2 : ℓ 2 = true := hdep { on := 2, ground := Ground.data } (by simp) rfl
        clear hdep ho
        have hlL : ℓ 13 = false := by
          cases h7 : ℓ 13
          · rfl
          · have := (hr.cl h7).2.2.2.1; rw [this] at hL; cases hL
        have hlG := hlL
        have hc := hr.cu hlG
        have ht := hr.tu hlG
        obtain rfl := hr.f2 g2
        intro hK
        rw [if_pos (by rfl)]
        try simp only [Act.put, List.setIfInBounds_toArray, List.set_cons_zero, List.set_cons_succ]
        have cc := (show w'.cell? ⟨VB, 15, none⟩ = some (.slice (some ⟨g, 0, none⟩) ad.pn ad.pc) from by rw [← HPA.out]; exact (HAN.out.turn HAB.out hc ht).rv.cell 15 rfl)
        go_simp
        exact hK.out _ _ (fun j => if j = 3 then true else ℓ j) ⟨x91, x92, (.pointer (some ⟨VB, 15, none⟩)), (.slice (some ⟨g, 0, none⟩) ad.pn ad.pc), x95, x96, x97, x98, x99, x100, x101, x102, x103, (by simp only [Act.put, List.setIfInBounds_toArray, List.set_cons_zero, List.set_cons_succ]), ⟨(fun g7 => absurd (hlL.symm.trans g7) Bool.false_ne_true), hr.cu, hr.tu, (fun g7 => absurd (hlL.symm.trans g7) Bool.false_ne_true), hr.k10, hr.k12, hr.f0, hr.f1, hr.f2, (fun _ => rfl), hr.f4, hr.f5, hr.f6, hr.f7, hr.f8, hr.f9, hr.f10, hr.f11, hr.f12⟩⟩ (if_pos rfl) (fun j hj => if_neg hj)
      · revert hK
        obtain rfl := Option.some.inj ho
        have g3 : ℓ 3 = true := hdep { on := 3, ground := Ground.data } (by simp) rfl
        clear hdep ho
        have hlL : ℓ 13 = false := by
          cases h7 : ℓ 13
          · rfl
          · have := (hr.cl h7).2.2.2.2.1; rw [this] at hL; cases hL
        have hlG := hlL
        have hc := hr.cu hlG
        have ht := hr.tu hlG
        obtain rfl := hr.f3 g3
        intro hK
        rw [if_pos (by rfl)]
        try simp only [Act.put, List.setIfInBounds_toArray, List.set_cons_zero, List.set_cons_succ]
        go_simp
        exact hK.out _ _ (fun j => if j = 4 then true else ℓ j) ⟨x91, x92, x93, (.slice (some ⟨g, 0, none⟩) ad.pn ad.pc), (.pointer (some ⟨g, 0, none⟩)), x96, x97, x98, x99, x100, x101, x102, x103, (by simp only [Act.put, List.setIfInBounds_toArray, List.set_cons_zero, List.set_cons_succ]), ⟨(fun g7 => absurd (hlL.symm.trans g7) Bool.false_ne_true), hr.cu, hr.tu, (fun g7 => absurd (hlL.symm.trans g7) Bool.false_ne_true), hr.k10, hr.k12, hr.f0, hr.f1, hr.f2, hr.f3, (fun _ => rfl), hr.f5, hr.f6, hr.f7, hr.f8, hr.f9, hr.f10, hr.f11, hr.f12⟩⟩ (if_pos rfl) (fun j hj => if_neg hj)
      · revert hK
        obtain rfl := Option.some.inj ho
        have g4 : ℓ 4 = true := hdep { on := 4, ground := Ground.data } (by simp) rfl
        clear hdep ho
        have hlL : ℓ 13 = false := by
          cases h7 : ℓ 13
          · rfl
          · have := (hr.cl h7).2.2.2.2.2.1; rw [this] at hL; cases hL
        have hlG := hlL
        have hc := hr.cu hlG
        have ht := hr.tu hlG
        obtain rfl := hr.f4 g4
        intro hK
        rw [if_pos (by rfl)]
        try simp only [Act.put, List.setIfInBounds_toArray, List.set_cons_zero, List.set_cons_succ]
        go_simp
        exact hK.out _ _ (fun j => if j = 5 then true else ℓ j) ⟨x91, x92, x93, x94, (.pointer (some ⟨g, 0, none⟩)), (.pointer (some ⟨g, 1, none⟩)), x97, x98, x99, x100, x101, x102, x103, (by simp only [Act.put, List.setIfInBounds_toArray, List.set_cons_zero, List.set_cons_succ]), ⟨(fun g7 => absurd (hlL.symm.trans g7) Bool.false_ne_true), hr.cu, hr.tu, (fun g7 => absurd (hlL.symm.trans g7) Bool.false_ne_true), hr.k10, hr.k12, hr.f0, hr.f1, hr.f2, hr.f3, hr.f4, (fun _ => rfl), hr.f6, hr.f7, hr.f8, hr.f9, hr.f10, hr.f11, hr.f12⟩⟩ (if_pos rfl) (fun j hj => if_neg hj)
      · revert hK
        obtain rfl := Option.some.inj ho
        have g5 : ℓ 5 = true := hdep { on := 5, ground := Ground.data } (by simp) rfl
        clear hdep ho
        have hlL : ℓ 13 = false := by
          cases h7 : ℓ 13
          · rfl
          · have := (hr.cl h7).2.2.2.2.2.2.1; rw [this] at hL; cases hL
        have hlG := hlL
        have hc := hr.cu hlG
        have ht := hr.tu hlG
        obtain rfl := hr.f5 g5
        intro hK
        rw [if_pos (by rfl)]
        try simp only [Act.put, List.setIfInBounds_toArray, List.set_cons_zero, List.set_cons_succ]
        have cc := (show w'.cell? ⟨g, 1, none⟩ = some (.int .i64 en) from by rw [← HEN.out]; exact (HAN.out.turn HAB.out hc ht).o.pat HPA.out 0 hp0 1 (by decide) rfl)
        go_simp
        exact hK.out _ _ (fun j => if j = 6 then true else ℓ j) ⟨x91, x92, x93, x94, x95, (.pointer (some ⟨g, 1, none⟩)), (.int .i64 en), x98, x99, x100, x101, x102, x103, (by simp only [Act.put, List.setIfInBounds_toArray, List.set_cons_zero, List.set_cons_succ]), ⟨(fun g7 => absurd (hlL.symm.trans g7) Bool.false_ne_true), hr.cu, hr.tu, (fun g7 => absurd (hlL.symm.trans g7) Bool.false_ne_true), (fun g7 => ⟨rfl, (hr.k10 g7).2.1, trivial⟩), hr.k12, hr.f0, hr.f1, hr.f2, hr.f3, hr.f4, hr.f5, (fun _ => rfl), hr.f7, hr.f8, hr.f9, hr.f10, hr.f11, hr.f12⟩⟩ (if_pos rfl) (fun j hj => if_neg hj)
      · revert hK
        obtain rfl := Option.some.inj ho
        clear hdep ho
        have hlL : ℓ 13 = false := by
          cases h7 : ℓ 13
          · rfl
          · have := (hr.cl h7).2.2.2.2.2.2.2.1; rw [this] at hL; cases hL
        have hlG := hlL
        have hc := hr.cu hlG
        have ht := hr.tu hlG
        intro hK
        rw [if_pos (by rfl)]
        try simp only [Act.put, List.setIfInBounds_toArray, List.set_cons_zero, List.set_cons_succ]
        go_simp
        exact hK.out _ _ (fun j => if j = 7 then true else ℓ j) ⟨x91, x92, x93, x94, x95, x96, x97, (.pointer (some ⟨B, 0, none⟩)), x99, x100, x101, x102, x103, (by simp only [Act.put, List.setIfInBounds_toArray, List.set_cons_zero, List.set_cons_succ]), ⟨(fun g7 => absurd (hlL.symm.trans g7) Bool.false_ne_true), hr.cu, hr.tu, (fun g7 => absurd (hlL.symm.trans g7) Bool.false_ne_true), hr.k10, hr.k12, hr.f0, hr.f1, hr.f2, hr.f3, hr.f4, hr.f5, hr.f6, (fun _ => rfl), hr.f8, hr.f9, hr.f10, hr.f11, hr.f12⟩⟩ (if_pos rfl) (fun j hj => if_neg hj)
      · revert hK
        obtain rfl := Option.some.inj ho
        clear hdep ho
        have hlL : ℓ 13 = false := by
          cases h7 : ℓ 13
          · rfl
          · have := (hr.cl h7).2.2.2.2.2.2.2.2.1; rw [this] at hL; cases hL
        have hlG := hlL
        have hc := hr.cu hlG
        have ht := hr.tu hlG
        intro hK
        rw [if_pos (by rfl)]
        try simp only [Act.put, List.setIfInBounds_toArray, List.set_cons_zero, List.set_cons_succ]
        have hbA : Below w'.heap.size w' (w'.alloc (.cells #[.int .i64 1, .int .i64 128, .int .i64 (-4), .int .i64 132] 3)) := (Below.refl _ _).alloc (Nat.le_refl _) _
        have htA := Turn.of_below (B := B) hbA
        go_simp
        exact hK.out _ _ (fun j => if j = 8 then true else ℓ j) ⟨x91, x92, x93, x94, x95, x96, x97, x98, (.slice (some ⟨w'.heap.size, 0, none⟩) 4 4), x100, x101, x102, x103, (by simp only [Act.put, List.setIfInBounds_toArray, List.set_cons_zero, List.set_cons_succ]), ⟨(fun g7 => absurd (hlL.symm.trans g7) Bool.false_ne_true), (fun _ => hc.below hbA), (fun _ => ht.trans htA), (fun g7 => absurd (hlL.symm.trans g7) Bool.false_ne_true), hr.k10, hr.k12, hr.f0, hr.f1, hr.f2, hr.f3, hr.f4, hr.f5, hr.f6, hr.f7, (fun _ _ => ⟨w'.heap.size, rfl, ht.size, own_litD .i64 w' 3 [1, 128, (-4), 132]⟩), hr.f9, hr.f10, hr.f11, hr.f12⟩⟩ (if_pos rfl) (fun j hj => if_neg hj)
      · revert hK
        obtain rfl := Option.some.inj ho
        have g7 : ℓ 7 = true := hdep { on := 7, ground := Ground.data } (by simp) rfl
        have g8 : ℓ 8 = true := hdep { on := 8, ground := Ground.data } (by simp) rfl
        clear hdep ho
        have hlL : ℓ 13 = false := by
          cases h7 : ℓ 13
          · rfl
          · have := (hr.cl h7).2.2.2.2.2.2.2.2.2.1; rw [this] at hL; cases hL
        have hlG := hlL
        have hc := hr.cu hlG
        have ht := hr.tu hlG
        obtain rfl := hr.f7 g7
        obtain ⟨g, rfl, hgg, hgo⟩ := hr.f8 g8 hlG
        intro hK
        rw [if_pos (by rfl)]
        try simp only [Act.put, List.setIfInBounds_toArray, List.set_cons_zero, List.set_cons_succ]
        go_simp
        refine (draw_pick w' B g a zs cap [1, 128, (-4), 132] hc hgo (by have := HBW.out; omega) (by simp) (by simp)).mono ?_
        rintro e w9 ⟨y, rfl, hyy, hc9, ht9⟩
        exact hK.out _ _ (fun j => if j = 9 then true else ℓ j) ⟨x91, x92, x93, x94, x95, x96, x97, (.pointer (some ⟨B, 0, none⟩)), (.slice (some ⟨g, 0, none⟩) 4 4), (.int .i64 y), x101, x102, x103, (by simp only [Act.put, List.setIfInBounds_toArray, List.set_cons_zero, List.set_cons_succ]), ⟨(fun g7 => absurd (hlL.symm.trans g7) Bool.false_ne_true), (fun _ => hc9), (fun _ => ht.trans ht9), (fun g7 => absurd (hlL.symm.trans g7) Bool.false_ne_true), (fun g7 => ⟨(hr.k10 g7).1, rfl, trivial⟩), hr.k12, hr.f0, hr.f1, hr.f2, hr.f3, hr.f4, hr.f5, hr.f6, hr.f7, (fun e1 e2 => by obtain ⟨g3, q1, q2, q3⟩ := hr.f8 e1 hlG; exact ⟨g3, q1, q2, (own_turn q3 ht9 (by have := HBW.out; omega))⟩), (fun _ => ⟨y, rfl, hyy⟩), (fun g7 => absurd (hL.symm.trans (hr.k10 g7).2.1) Bool.false_ne_true), hr.f11, hr.f12⟩⟩ (if_pos rfl) (fun j hj => if_neg hj)
      · revert hK
        obtain rfl := Option.some.inj ho
        have g6 : ℓ 6 = true := hdep { on := 6, ground := Ground.data } (by simp) rfl
        have g9 : ℓ 9 = true := hdep { on := 9, ground := Ground.data } (by simp) rfl
        clear hdep ho
        have hlL : ℓ 13 = false := by
          cases h7 : ℓ 13
          · rfl
          · have := (hr.cl h7).2.2.2.2.2.2.2.2.2.2.1; rw [this] at hL; cases hL
        have hlG := hlL
        have hc := hr.cu hlG
        have ht := hr.tu hlG
        obtain rfl := hr.f6 g6
        obtain ⟨y, rfl, hyy⟩ := hr.f9 g9
        intro hK
        rw [if_pos (by rfl)]
        try simp only [Act.put, List.setIfInBounds_toArray, List.set_cons_zero, List.set_cons_succ]
        go_simp
        exact hK.out _ _ (fun j => if j = 10 then true else ℓ j) ⟨x91, x92, x93, x94, x95, x96, (.int .i64 en), x98, x99, (.int .i64 y), (.int .i64 (IntKind.i64.wrap (en + y))), x102, x103, (by simp only [Act.put, List.setIfInBounds_toArray, List.set_cons_zero, List.set_cons_succ]), ⟨(fun g7 => absurd (hlL.symm.trans g7) Bool.false_ne_true), hr.cu, hr.tu, (fun g7 => absurd (hlL.symm.trans g7) Bool.false_ne_true), (fun _ => ⟨g6, g9, trivial⟩), hr.k12, hr.f0, hr.f1, hr.f2, hr.f3, hr.f4, hr.f5, hr.f6, hr.f7, hr.f8, hr.f9, (fun _ => ⟨y, rfl, rfl⟩), hr.f11, hr.f12⟩⟩ (if_pos rfl) (fun j hj => if_neg hj)
      · revert hK
        obtain rfl := Option.some.inj ho
        have g1 : ℓ 1 = true := hdep { on := 1, ground := Ground.data } (by simp) rfl
        have g0 : ℓ 0 = true := hdep { on := 0, ground := Ground.phase } (by simp) rfl
        have g2 : ℓ 2 = true := hdep { on := 2, ground := Ground.phase } (by simp) rfl
        have g3 : ℓ 3 = true := hdep { on := 3, ground := Ground.phase } (by simp) rfl
        have g4 : ℓ 4 = true := hdep { on := 4, ground := Ground.phase } (by simp) rfl
        have g5 : ℓ 5 = true := hdep { on := 5, ground := Ground.phase } (by simp) rfl
        have g6 : ℓ 6 = true := hdep { on := 6, ground := Ground.phase } (by simp) rfl
        have g7 : ℓ 7 = true := hdep { on := 7, ground := Ground.phase } (by simp) rfl
        have g8 : ℓ 8 = true := hdep { on := 8, ground := Ground.phase } (by simp) rfl
        have g9 : ℓ 9 = true := hdep { on := 9, ground := Ground.phase } (by simp) rfl
        have g10 : ℓ 10 = true := hdep { on := 10, ground := Ground.phase } (by simp) rfl
        clear hdep ho
        have hlL : ℓ 13 = false := by
          cases h7 : ℓ 13
          · rfl
          · have := (hr.cl h7).2.2.2.2.2.2.2.2.2.2.2.1; rw [this] at hL; cases hL
        have hlG := hlL
        have hc := hr.cu hlG
        have ht := hr.tu hlG
        obtain rfl := hr.f1 g1
        intro hK
        rw [if_pos (by rfl)]
        try simp only [Act.put, List.setIfInBounds_toArray, List.set_cons_zero, List.set_cons_succ]
        go_simp
        exact hK.out _ _ (fun j => if j = 11 then true else ℓ j) ⟨x91, (.slice (some ⟨g, 0, none⟩) ad.pn ad.pc), x93, x94, x95, x96, x97, x98, x99, x100, x101, (.pointer (some ⟨g, 0, none⟩)), x103, (by simp only [Act.put, List.setIfInBounds_toArray, List.set_cons_zero, List.set_cons_succ]), ⟨(fun g7 => absurd (hlL.symm.trans g7) Bool.false_ne_true), hr.cu, hr.tu, (fun g7 => absurd (hlL.symm.trans g7) Bool.false_ne_true), hr.k10, (fun g7 => ⟨rfl, trivial⟩), hr.f0, hr.f1, hr.f2, hr.f3, hr.f4, hr.f5, hr.f6, hr.f7, hr.f8, hr.f9, hr.f10, (fun _ => rfl), hr.f12⟩⟩ (if_pos rfl) (fun j hj => if_neg hj)
      · revert hK
        obtain rfl := Option.some.inj ho
        have g11 : ℓ 11 = true := hdep { on := 11, ground := Ground.data } (by simp) rfl
        have g0 : ℓ 0 = true := hdep { on := 0, ground := Ground.phase } (by simp) rfl
        have g1 : ℓ 1 = true := hdep { on := 1, ground := Ground.phase } (by simp) rfl
        have g2 : ℓ 2 = true := hdep { on := 2, ground := Ground.phase } (by simp) rfl
        have g3 : ℓ 3 = true := hdep { on := 3, ground := Ground.phase } (by simp) rfl
        have g4 : ℓ 4 = true := hdep { on := 4, ground := Ground.phase } (by simp) rfl
        have g5 : ℓ 5 = true := hdep { on := 5, ground := Ground.phase } (by simp) rfl
        have g6 : ℓ 6 = true := hdep { on := 6, ground := Ground.phase } (by simp) rfl
        have g7 : ℓ 7 = true := hdep { on := 7, ground := Ground.phase } (by simp) rfl
        have g8 : ℓ 8 = true := hdep { on := 8, ground := Ground.phase } (by simp) rfl
        have g9 : ℓ 9 = true := hdep { on := 9, ground := Ground.phase } (by simp) rfl
        have g10 : ℓ 10 = true := hdep { on := 10, ground := Ground.phase } (by simp) rfl
        clear hdep ho
        have hlL : ℓ 13 = false := by
          cases h7 : ℓ 13
          · rfl
          · have := (hr.cl h7).2.2.2.2.2.2.2.2.2.2.2.2.1; rw [this] at hL; cases hL
        have hlG := hlL
        have hc := hr.cu hlG
        have ht := hr.tu hlG
        obtain rfl := hr.f11 g11
        intro hK
        rw [if_pos (by rfl)]
        try simp only [Act.put, List.setIfInBounds_toArray, List.set_cons_zero, List.set_cons_succ]
        go_simp
        exact hK.out _ _ (fun j => if j = 12 then true else ℓ j) ⟨x91, x92, x93, x94, x95, x96, x97, x98, x99, x100, x101, (.pointer (some ⟨g, 0, none⟩)), (.pointer (some ⟨g, 1, none⟩)), (by simp only [Act.put, List.setIfInBounds_toArray, List.set_cons_zero, List.set_cons_succ]), ⟨(fun g7 => absurd (hlL.symm.trans g7) Bool.false_ne_true), hr.cu, hr.tu, (fun g7 => absurd (hlL.symm.trans g7) Bool.false_ne_true), hr.k10, (fun _ => ⟨g11, trivial⟩), hr.f0, hr.f1, hr.f2, hr.f3, hr.f4, hr.f5, hr.f6, hr.f7, hr.f8, hr.f9, hr.f10, hr.f11, (fun _ => rfl)⟩⟩ (if_pos rfl) (fun j hj => if_neg hj)
      · revert hK
        obtain rfl := Option.some.inj ho
        have g12 : ℓ 12 = true := hdep { on := 12, ground := Ground.data } (by simp) rfl
        have g10 : ℓ 10 = true := hdep { on := 10, ground := Ground.data } (by simp) rfl
        have g0 : ℓ 0 = true := hdep { on := 0, ground := Ground.phase } (by simp) rfl
        have g1 : ℓ 1 = true := hdep { on := 1, ground := Ground.phase } (by simp) rfl
        have g2 : ℓ 2 = true := hdep { on := 2, ground := Ground.phase } (by simp) rfl
        have g3 : ℓ 3 = true := hdep { on := 3, ground := Ground.phase } (by simp) rfl
        have g4 : ℓ 4 = true := hdep { on := 4, ground := Ground.phase } (by simp) rfl
        have g5 : ℓ 5 = true := hdep { on := 5, ground := Ground.phase } (by simp) rfl
        have g6 : ℓ 6 = true := hdep { on := 6, ground := Ground.phase } (by simp) rfl
        have g7 : ℓ 7 = true := hdep { on := 7, ground := Ground.phase } (by simp) rfl
        have g8 : ℓ 8 = true := hdep { on := 8, ground := Ground.phase } (by simp) rfl
        have g9 : ℓ 9 = true := hdep { on := 9, ground := Ground.phase } (by simp) rfl
        clear hdep ho
        have hc := hr.cu hL
        have ht := hr.tu hL
        obtain rfl := hr.f12 g12
        obtain ⟨y, ey, rfl⟩ := hr.f10 g10
        obtain rfl := ey
        intro hK
        rw [if_pos (by rfl)]
        try simp only [Act.put, List.setIfInBounds_toArray, List.set_cons_zero, List.set_cons_succ]
        have cc := (show w'.cell? ⟨g, 1, none⟩ = some (.int .i64 en) from by rw [← HEN.out]; exact (HAN.out.turn HAB.out hc ht).o.pat HPA.out 0 hp0 1 (by decide) rfl)
        have cf := (HAN.out.turn HAB.out hc ht).o.pfr HPA.out hp0 1
        go_simp
        exact hK.out _ _ (fun j => if j = 13 then true else ℓ j) ⟨x91, x92, x93, x94, x95, x96, x97, x98, x99, (.int .i64 y), (.int .i64 (IntKind.i64.wrap (en + y))), x102, (.pointer (some ⟨g, 1, none⟩)), (by simp only [Act.put, List.setIfInBounds_toArray, List.set_cons_zero, List.set_cons_succ]), ⟨(fun _ => ⟨g0, g1, g2, g3, g4, g5, g6, g7, g8, g9, g10, (hr.k12 g12).1, g12, trivial⟩), (fun g => by cases g), (fun g => by cases g), (fun _ => ⟨w', hc, ht, rfl⟩), hr.k10, hr.k12, hr.f0, hr.f1, hr.f2, hr.f3, hr.f4, hr.f5, hr.f6, hr.f7, (fun _ e2 => by cases e2), hr.f9, hr.f10, hr.f11, hr.f12⟩⟩ (if_pos rfl) (fun j hj => if_neg hj)
    · rintro a' w' ℓ ℓ' hℓ hI
      rw [← show ℓ = ℓ' from funext hℓ]
      exact hI
  · clear hx0 hx1
    have hp2 : 2 ≤ ad.pn := by have := HDT.out.n; have := HAN.out.w.pl; omega
    have hp0 : 0 < ad.pn := by omega
    have hpi : (0 : Int) < (ad.pn : Int) := by omega
    obtain ⟨g, hpa⟩ := HAN.out.o.pab hp0
    have HPA : Hid (ad.pa = some ⟨g, 0, none⟩) := hpa
    have v15q : w4.cell? ⟨VB, 15, none⟩ = some (.slice (some ⟨g, 0, none⟩) ad.pn ad.pc) := by rw [← hpa]; exact HAN.out.rv.cell 15 rfl
    clear hpa
    clear v15q
    have hpi1 : (1 : Int) < (ad.pn : Int) := by omega
    have hp1 : 1 < ad.pn := by omega
    have hw2 : ∀ i, i < ad.pn → (ad.Y i).wn = 2 := fun i hi => by rw [← (HAN.out.o.pw i hi).ln]; exact HDT.out.ws2 i (by have := HAN.out.w.pl; omega)
    have HW0 : Hid ((ad.Y 0).wn = 2) := hw2 0 hp0
    have HW1 : Hid ((ad.Y 1).wn = 2) := hw2 1 hp1
    obtain ⟨b, off, hwa⟩ := HAN.out.o.wab 0 hp0 (by have := HW0.out; omega)
    have HWA : Hid ((ad.Y 0).wa = some ⟨b, off, none⟩) := hwa
    obtain ⟨bw, ow, hwb⟩ := HAN.out.o.wab 1 hp1 (by have := HW1.out; omega)
    have HWB : Hid ((ad.Y 1).wa = some ⟨bw, ow, none⟩) := hwb
    obtain ⟨wc0, HC0⟩ : ∃ v, Hid ((ad.Y 0).wc = v) := ⟨_, rfl⟩
    obtain ⟨wc1, HC1⟩ : ∃ v, Hid ((ad.Y 1).wc = v) := ⟨_, rfl⟩
    obtain ⟨e0, HE0⟩ : ∃ v, Hid (((t.ps.getD 0 pt0).ws.getD 0 wi0).1 = v) := ⟨_, rfl⟩
    clear hw2 hwa hwb
    have HCU0 : Hid (Cur w4 B a zs cap) := HAN.out.ct.cur
    have HBW : Hid (B < w4.heap.size) := HAN.out.ct.cur.lt
    go_wp2
    refine wp_region_inv (by kernel_rfl) (by kernel_rfl) (fun AC ℓ a' w' => ∃ (x106 x107 x108 x109 x110 x111 x112 x113 x114 x115 x116 x117 x118 x119 x120 : Value), a' = (((((((((((((((AC.put (some 106) x106).put (some 107) x107).put (some 108) x108).put (some 109) x109).put (some 110) x110).put (some 111) x111).put (some 112) x112).put (some 113) x113).put (some 114) x114).put (some 115) x115).put (some 116) x116).put (some 117) x117).put (some 118) x118).put (some 119) x119).put (some 120) x120) ∧ D9 (w4) B a zs cap (⟨bw, ow, none⟩) VB g ad b off bw ow wc0 wc1 e0 w' (ℓ 0) (ℓ 1) (ℓ 2) (ℓ 3) (ℓ 4) (ℓ 5) (ℓ 6) (ℓ 7) (ℓ 8) (ℓ 9) (ℓ 10) (ℓ 11) (ℓ 12) (ℓ 13) (ℓ 14) (ℓ 15) x106 x107 x108 x109 x110 x111 x112 x113 x114 x115 x116 x117 x118 x119 x120) ?_ ?_ ?_ ?_
    · exact ⟨undef, undef, undef, undef, undef, undef, undef, undef, undef, undef, undef, undef, undef, undef, undef, (by simp only [Act.put, List.setIfInBounds_toArray, List.set_cons_zero, List.set_cons_succ]), ⟨(fun g => by cases g), (fun _ => HCU0.out.drewN 1), (fun _ => (Turn.refl _ _).drewN 1), (fun g => by cases g), (fun g => by cases g), (fun g => by cases g), (fun g => by cases g), (fun g => by cases g), (fun g => by cases g), (fun g => by cases g), (fun g => by cases g), (fun g => by cases g), (fun g => by cases g), (fun g => by cases g), (fun g => by cases g), (fun g => by cases g), (fun g => by cases g), (fun g => by cases g), (fun g => by cases g), (fun g => by cases g)⟩⟩
    · intro ℓ a' w' hI hall
      obtain ⟨x106, x107, x108, x109, x110, x111, x112, x113, x114, x115, x116, x117, x118, x119, x120, rfl, hr⟩ := hI
      have hall' : ∀ i, i < 16 → ℓ i = true := hall
      obtain ⟨V, hcV, htV, rfl⟩ := hr.la (hall' 15 (by decide))
      obtain rfl := hr.f0 (hall' 0 (by decide))
      obtain rfl := hr.f1 (hall' 1 (by decide))
      obtain rfl := hr.f2 (hall' 2 (by decide))
      obtain rfl := hr.f3 (hall' 3 (by decide))
      obtain rfl := hr.f4 (hall' 4 (by decide))
      obtain rfl := hr.f5 (hall' 5 (by decide))
      obtain rfl := hr.f6 (hall' 6 (by decide))
      obtain rfl := hr.f7 (hall' 7 (by decide))
      obtain rfl := hr.f8 (hall' 8 (by decide))
      obtain rfl := hr.f9 (hall' 9 (by decide))
      obtain rfl := hr.f10 (hall' 10 (by decide))
      obtain rfl := hr.f11 (hall' 11 (by decide))
      obtain rfl := hr.f12 (hall' 12 (by decide))
      obtain rfl := hr.f13 (hall' 13 (by decide))
      obtain rfl := hr.f14 (hall' 14 (by decide))
      clear hr hall hall'
      simp only [Act.put, List.setIfInBounds_toArray, List.set_cons_zero, List.set_cons_succ]
      have HA6 : Hid (AN w V B a zs cap VB lo t ad) := HAN.out.turn HAB.out hcV htV
      obtain ⟨b', off', e', hfz, hcl, T9, hT9, HA⟩ := HA6.out.setw HAB.out 1 0 0 hp1 (by have := HW1.out; omega) (by decide) (.int .i64 e0) (e0, ((t.ps.getD 1 pt0).ws.getD 0 wi0).2.1, ((t.ps.getD 1 pt0).ws.getD 0 wi0).2.2) rfl rfl
      rw [HWB.out] at e'
      cases e'
      have HA7 : Hid (AN w (V.setCell ⟨bw, ow, none⟩ (.int .i64 e0)) B a zs cap VB lo T9 ad) := (show AN w (V.setCell ⟨bw, ow, none⟩ (.int .i64 e0)) B a zs cap VB lo T9 ad from by simpa using HA)
      clear hfz hcl HA hT9
      have HBE : Hid _ := HA7.out.fin HAB.out.b HAB.out.l
      have HBR : Hid _ := HA7.out.rv
      have HB0 : Hid _ := HA7.out.r0
      have HBX : Hid (DA w (World.setRow (V.setCell ⟨bw, ow, none⟩ (.int .i64 e0)) w.heap.size (tbA T9 ad)) B a zs cap T9 ad) := ⟨HBE.out.2.1, HA7.out.w, HA7.out.s, HA7.out.c1, HA7.out.c2, HA7.out.p2, HBE.out.2.2.1, HBE.out.2.2.2⟩
      go_wp2_with (first | (refine wpList_load_row rfl 33 (.tmp 3) rfl VB rfl 33 (tbA T9 ad) (0, 0) _ HBR.out Tryz.underlying33 rfl (by kernel_rfl) ?_) | (refine wpList_store_row rfl 33 (.tmp 2) (.tmp 213) rfl w.heap.size (tbA T9 ad) rfl rfl 33 (#[.int .i64 0, .int .i64 0, .int .i64 0, .int .i64 0, .int .i64 0, .int .i64 0, .int .i64 0, .int .i64 0, .int .i64 0, .int .i64 0, .int .i64 0, .int .i64 0, .int .i64 0, .int .i64 0, .int .i64 0, .slice none 0 0, .slice none 0 0, .slice none 0 0, .slice none 0 0]) HB0.out (by kernel_rfl) rfl (by simp [Value.oneCell']) ?_) | fail)
      refine bodyPost_ret (v := tbV T9 ad) (res_any HBE.out.1 rfl rfl) rfl ⟨T9, ad, rfl, HBX.out⟩
    · intro ℓ a' w' i o hI ho hi hL hdep K hK
      obtain ⟨x106, x107, x108, x109, x110, x111, x112, x113, x114, x115, x116, x117, x118, x119, x120, rfl, hr⟩ := hI
      have hi7 : i < 16 := hi
      have hcs : i = 0 ∨ i = 1 ∨ i = 2 ∨ i = 3 ∨ i = 4 ∨ i = 5 ∨ i = 6 ∨ i = 7 ∨ i = 8 ∨ i = 9 ∨ i = 10 ∨ i = 11 ∨ i = 12 ∨ i = 13 ∨ i = 14 ∨ i = 15 := by omega
      clear hi hi7
      rcases hcs with rfl | rfl | rfl | rfl | rfl | rfl | rfl | rfl | rfl | rfl | rfl | rfl | rfl | rfl | rfl | rfl
      · revert hK
        obtain rfl := Option.some.inj ho
        clear hdep ho
        have hlL : ℓ 15 = false := by
          cases h7 : ℓ 15
          · rfl
          · have := (hr.cl h7).1; rw [this] at hL; cases hL
        have hlG := hlL
        have hc := hr.cu hlG
        have ht := hr.tu hlG
        intro hK
        rw [if_pos (by rfl)]
        try simp only [Act.put, List.setIfInBounds_toArray, List.set_cons_zero, List.set_cons_succ]
        go_simp
        exact hK.out _ _ (fun j => if j = 0 then true else ℓ j) ⟨(.pointer (some ⟨VB, 15, none⟩)), x107, x108, x109, x110, x111, x112, x113, x114, x115, x116, x117, x118, x119, x120, (by simp only [Act.put, List.setIfInBounds_toArray, List.set_cons_zero, List.set_cons_succ]), ⟨(fun g7 => absurd (hlL.symm.trans g7) Bool.false_ne_true), hr.cu, hr.tu, (fun g7 => absurd (hlL.symm.trans g7) Bool.false_ne_true), hr.k14, (fun _ => rfl), hr.f1, hr.f2, hr.f3, hr.f4, hr.f5, hr.f6, hr.f7, hr.f8, hr.f9, hr.f10, hr.f11, hr.f12, hr.f13, hr.f14⟩⟩ (if_pos rfl) (fun j hj => if_neg hj)
      · revert hK
        obtain rfl := Option.some.inj ho
        have g0 : ℓ 0 = true := hdep { on := 0, ground := Ground.data } (by simp) rfl
        clear hdep ho
        have hlL : ℓ 15 = false := by
          cases h7 : ℓ 15
          · rfl
          · have := (hr.cl h7).2.1; rw [this] at hL; cases hL
        have hlG := hlL
        have hc := hr.cu hlG
        have ht := hr.tu hlG
        obtain rfl := hr.f0 g0
        intro hK
        rw [if_pos (by rfl)]
        try simp only [Act.put, List.setIfInBounds_toArray, List.set_cons_zero, List.set_cons_succ]
        have cc := (show w'.cell? ⟨VB, 15, none⟩ = some (.slice (some ⟨g, 0, none⟩) ad.pn ad.pc) from by rw [← HPA.out]; exact (HAN.out.turn HAB.out hc ht).rv.cell 15 rfl)
        go_simp
        exact hK.out _ _ (fun j => if j = 1 then true else ℓ j) ⟨(.pointer (some ⟨VB, 15, none⟩)), (.slice (some ⟨g, 0, none⟩) ad.pn ad.pc), x108, x109, x110, x111, x112, x113, x114, x115, x116, x117, x118, x119, x120, (by simp only [Act.put, List.setIfInBounds_toArray, List.set_cons_zero, List.set_cons_succ]), ⟨(fun g7 => absurd (hlL.symm.trans g7) Bool.false_ne_true), hr.cu, hr.tu, (fun g7 => absurd (hlL.symm.trans g7) Bool.false_ne_true), hr.k14, hr.f0, (fun _ => rfl), hr.f2, hr.f3, hr.f4, hr.f5, hr.f6, hr.f7, hr.f8, hr.f9, hr.f10, hr.f11, hr.f12, hr.f13, hr.f14⟩⟩ (if_pos rfl) (fun j hj => if_neg hj)
      · revert hK
        obtain rfl := Option.some.inj ho
        have g1 : ℓ 1 = true := hdep { on := 1, ground := Ground.data } (by simp) rfl
        clear hdep ho
        have hlL : ℓ 15 = false := by
          cases h7 : ℓ 15
          · rfl
          · have := (hr.cl h7).2.2.1; rw [this] at hL; cases hL
        have hlG := hlL
        have hc := hr.cu hlG
        have ht := hr.tu hlG
        obtain rfl := hr.f1 g1
        intro hK
        rw [if_pos (by rfl)]
        try simp only [Act.put, List.setIfInBounds_toArray, List.set_cons_zero, List.set_cons_succ]
        go_simp
        exact hK.out _ _ (fun j => if j = 2 then true else ℓ j) ⟨x106, (.slice (some ⟨g, 0, none⟩) ad.pn ad.pc), (.pointer (some ⟨g, 5, none⟩)), x109, x110, x111, x112, x113, x114, x115, x116, x117, x118, x119, x120, (by simp only [Act.put, List.setIfInBounds_toArray, List.set_cons_zero, List.set_cons_succ]), ⟨(fun g7 => absurd (hlL.symm.trans g7) Bool.false_ne_true), hr.cu, hr.tu, (fun g7 => absurd (hlL.symm.trans g7) Bool.false_ne_true), hr.k14, hr.f0, hr.f1, (fun _ => rfl), hr.f3, hr.f4, hr.f5, hr.f6, hr.f7, hr.f8, hr.f9, hr.f10, hr.f11, hr.f12, hr.f13, hr.f14⟩⟩ (if_pos rfl) (fun j hj => if_neg hj)
      · revert hK
        obtain rfl := Option.some.inj ho
        have g2 : ℓ 2 = true := hdep { on := 2, ground := Ground.data } (by simp) rfl
        clear hdep ho
        have hlL : ℓ 15 = false := by
          cases h7 : ℓ 15
          · rfl
          · have := (hr.cl h7).2.2.2.1; rw [this] at hL; cases hL
        have hlG := hlL
        have hc := hr.cu hlG
        have ht := hr.tu hlG
        obtain rfl := hr.f2 g2
        intro hK
        rw [if_pos (by rfl)]
        try simp only [Act.put, List.setIfInBounds_toArray, List.set_cons_zero, List.set_cons_succ]
        go_simp
        exact hK.out _ _ (fun j => if j = 3 then true else ℓ j) ⟨x106, x107, (.pointer (some ⟨g, 5, none⟩)), (.pointer (some ⟨g, 9, none⟩)), x110, x111, x112, x113, x114, x115, x116, x117, x118, x119, x120, (by simp only [Act.put, List.setIfInBounds_toArray, List.set_cons_zero, List.set_cons_succ]), ⟨(fun g7 => absurd (hlL.symm.trans g7) Bool.false_ne_true), hr.cu, hr.tu, (fun g7 => absurd (hlL.symm.trans g7) Bool.false_ne_true), hr.k14, hr.f0, hr.f1, hr.f2, (fun _ => rfl), hr.f4, hr.f5, hr.f6, hr.f7, hr.f8, hr.f9, hr.f10, hr.f11, hr.f12, hr.f13, hr.f14⟩⟩ (if_pos rfl) (fun j hj => if_neg hj)
      · revert hK
        obtain rfl := Option.some.inj ho
        have g3 : ℓ 3 = true := hdep { on := 3, ground := Ground.data } (by simp) rfl
        clear hdep ho
        have hlL : ℓ 15 = false := by
          cases h7 : ℓ 15
          · rfl
          · have := (hr.cl h7).2.2.2.2.1; rw [this] at hL; cases hL
        have hlG := hlL
        have hc := hr.cu hlG
        have ht := hr.tu hlG
        obtain rfl := hr.f3 g3
        intro hK
        rw [if_pos (by rfl)]
        try simp only [Act.put, List.setIfInBounds_toArray, List.set_cons_zero, List.set_cons_succ]
        have cc := (show w'.cell? ⟨g, 9, none⟩ = some (.slice (some ⟨bw, ow, none⟩) 2 wc1) from (HAN.out.turn HAB.out hc ht).o.pat HPA.out 1 hp1 4 (by decide) (by rw [← HWB.out, ← HW1.out, ← HC1.out]; rfl))
        go_simp
        exact hK.out _ _ (fun j => if j = 4 then true else ℓ j) ⟨x106, x107, x108, (.pointer (some ⟨g, 9, none⟩)), (.slice (some ⟨bw, ow, none⟩) 2 wc1), x111, x112, x113, x114, x115, x116, x117, x118, x119, x120, (by simp only [Act.put, List.setIfInBounds_toArray, List.set_cons_zero, List.set_cons_succ]), ⟨(fun g7 => absurd (hlL.symm.trans g7) Bool.false_ne_true), hr.cu, hr.tu, (fun g7 => absurd (hlL.symm.trans g7) Bool.false_ne_true), hr.k14, hr.f0, hr.f1, hr.f2, hr.f3, (fun _ => rfl), hr.f5, hr.f6, hr.f7, hr.f8, hr.f9, hr.f10, hr.f11, hr.f12, hr.f13, hr.f14⟩⟩ (if_pos rfl) (fun j hj => if_neg hj)
      · revert hK
        obtain rfl := Option.some.inj ho
        clear hdep ho
        have hlL : ℓ 15 = false := by
          cases h7 : ℓ 15
          · rfl
          · have := (hr.cl h7).2.2.2.2.2.1; rw [this] at hL; cases hL
        have hlG := hlL
        have hc := hr.cu hlG
        have ht := hr.tu hlG
        intro hK
        rw [if_pos (by rfl)]
        try simp only [Act.put, List.setIfInBounds_toArray, List.set_cons_zero, List.set_cons_succ]
        go_simp
        exact hK.out _ _ (fun j => if j = 5 then true else ℓ j) ⟨x106, x107, x108, x109, x110, (.pointer (some ⟨VB, 15, none⟩)), x112, x113, x114, x115, x116, x117, x118, x119, x120, (by simp only [Act.put, List.setIfInBounds_toArray, List.set_cons_zero, List.set_cons_succ]), ⟨(fun g7 => absurd (hlL.symm.trans g7) Bool.false_ne_true), hr.cu, hr.tu, (fun g7 => absurd (hlL.symm.trans g7) Bool.false_ne_true), hr.k14, hr.f0, hr.f1, hr.f2, hr.f3, hr.f4, (fun _ => rfl), hr.f6, hr.f7, hr.f8, hr.f9, hr.f10, hr.f11, hr.f12, hr.f13, hr.f14⟩⟩ (if_pos rfl) (fun j hj => if_neg hj)
      · revert hK
        obtain rfl := Option.some.inj ho
        have g5 : ℓ 5 = true := hdep { on := 5, ground := Ground.data } (by simp) rfl
        clear hdep ho
        have hlL : ℓ 15 = false := by
          cases h7 : ℓ 15
          · rfl
          · have := (hr.cl h7).2.2.2.2.2.2.1; rw [this] at hL; cases hL
        have hlG := hlL
        have hc := hr.cu hlG
        have ht := hr.tu hlG
        obtain rfl := hr.f5 g5
        intro hK
        rw [if_pos (by rfl)]
        try simp only [Act.put, List.setIfInBounds_toArray, List.set_cons_zero, List.set_cons_succ]
        have cc := (show w'.cell? ⟨VB, 15, none⟩ = some (.slice (some ⟨g, 0, none⟩) ad.pn ad.pc) from by rw [← HPA.out]; exact (HAN.out.turn HAB.out hc ht).rv.cell 15 rfl)
        go_simp
        exact hK.out _ _ (fun j => if j = 6 then true else ℓ j) ⟨x106, x107, x108, x109, x110, (.pointer (some ⟨VB, 15, none⟩)), (.slice (some ⟨g, 0, none⟩) ad.pn ad.pc), x113, x114, x115, x116, x117, x118, x119, x120, (by simp only [Act.put, List.setIfInBounds_toArray, List.set_cons_zero, List.set_cons_succ]), ⟨(fun g7 => absurd (hlL.symm.trans g7) Bool.false_ne_true), hr.cu, hr.tu, (fun g7 => absurd (hlL.symm.trans g7) Bool.false_ne_true), hr.k14, hr.f0, hr.f1, hr.f2, hr.f3, hr.f4, hr.f5, (fun _ => rfl), hr.f7, hr.f8, hr.f9, hr.f10, hr.f11, hr.f12, hr.f13, hr.f14⟩⟩ (if_pos rfl) (fun j hj => if_neg hj)
      · revert hK
        obtain rfl := Option.some.inj ho
        have g6 : ℓ 6 = true := hdep { on := 6, ground := Ground.data } (by simp) rfl
        clear hdep ho
        have hlL : ℓ 15 = false := by
          cases h7 : ℓ 15
          · rfl
          · have := (hr.cl h7).2.2.2.2.2.2.2.1; rw [this] at hL; cases hL
        have hlG := hlL
        have hc := hr.cu hlG
        have ht := hr.tu hlG
        obtain rfl := hr.f6 g6
        intro hK
        rw [if_pos (by rfl)]
        try simp only [Act.put, List.setIfInBounds_toArray, List.set_cons_zero, List.set_cons_succ]
        go_simp
        exact hK.out _ _ (fun j => if j = 7 then true else ℓ j) ⟨x106, x107, x108, x109, x110, x111, (.slice (some ⟨g, 0, none⟩) ad.pn ad.pc), (.pointer (some ⟨g, 0, none⟩)), x114, x115, x116, x117, x118, x119, x120, (by simp only [Act.put, List.setIfInBounds_toArray, List.set_cons_zero, List.set_cons_succ]), ⟨(fun g7 => absurd (hlL.symm.trans g7) Bool.false_ne_true), hr.cu, hr.tu, (fun g7 => absurd (hlL.symm.trans g7) Bool.false_ne_true), hr.k14, hr.f0, hr.f1, hr.f2, hr.f3, hr.f4, hr.f5, hr.f6, (fun _ => rfl), hr.f8, hr.f9, hr.f10, hr.f11, hr.f12, hr.f13, hr.f14⟩⟩ (if_pos rfl) (fun j hj => if_neg hj)
      · revert hK
        obtain rfl := Option.some.inj ho
        have g7 : ℓ 7 = true := hdep { on := 7, ground := Ground.data } (by simp) rfl
        clear hdep ho
        have hlL : ℓ 15 = false := by
          cases h7 : ℓ 15
          · rfl
          · have := (hr.cl h7).2.2.2.2.2.2.2.2.1; rw [this] at hL; cases hL
        have hlG := hlL
        have hc := hr.cu hlG
        have ht := hr.tu hlG
        obtain rfl := hr.f7 g7
        intro hK
        rw [if_pos (by rfl)]
        try simp only [Act.put, List.setIfInBounds_toArray, List.set_cons_zero, List.set_cons_succ]
        go_simp
        exact hK.out _ _ (fun j => if j = 8 then true else ℓ j) ⟨x106, x107, x108, x109, x110, x111, x112, (.pointer (some ⟨g, 0, none⟩)), (.pointer (some ⟨g, 4, none⟩)), x115, x116, x117, x118, x119, x120, (by simp only [Act.put, List.setIfInBounds_toArray, List.set_cons_zero, List.set_cons_succ]), ⟨(fun g7 => absurd (hlL.symm.trans g7) Bool.false_ne_true), hr.cu, hr.tu, (fun g7 => absurd (hlL.symm.trans g7) Bool.false_ne_true), hr.k14, hr.f0, hr.f1, hr.f2, hr.f3, hr.f4, hr.f5, hr.f6, hr.f7, (fun _ => rfl), hr.f9, hr.f10, hr.f11, hr.f12, hr.f13, hr.f14⟩⟩ (if_pos rfl) (fun j hj => if_neg hj)
      · revert hK
        obtain rfl := Option.some.inj ho
        have g8 : ℓ 8 = true := hdep { on := 8, ground := Ground.data } (by simp) rfl
        clear hdep ho
        have hlL : ℓ 15 = false := by
          cases h7 : ℓ 15
          · rfl
          · have := (hr.cl h7).2.2.2.2.2.2.2.2.2.1; rw [this] at hL; cases hL
        have hlG := hlL
        have hc := hr.cu hlG
        have ht := hr.tu hlG
        obtain rfl := hr.f8 g8
        intro hK
        rw [if_pos (by rfl)]
        try simp only [Act.put, List.setIfInBounds_toArray, List.set_cons_zero, List.set_cons_succ]
        have cc := (show w'.cell? ⟨g, 4, none⟩ = some (.slice (some ⟨b, off, none⟩) 2 wc0) from (HAN.out.turn HAB.out hc ht).o.pat HPA.out 0 hp0 4 (by decide) (by rw [← HWA.out, ← HW0.out, ← HC0.out]; rfl))
        go_simp
        exact hK.out _ _ (fun j => if j = 9 then true else ℓ j) ⟨x106, x107, x108, x109, x110, x111, x112, x113, (.pointer (some ⟨g, 4, none⟩)), (.slice (some ⟨b, off, none⟩) 2 wc0), x116, x117, x118, x119, x120, (by simp only [Act.put, List.setIfInBounds_toArray, List.set_cons_zero, List.set_cons_succ]), ⟨(fun g7 => absurd (hlL.symm.trans g7) Bool.false_ne_true), hr.cu, hr.tu, (fun g7 => absurd (hlL.symm.trans g7) Bool.false_ne_true), hr.k14, hr.f0, hr.f1, hr.f2, hr.f3, hr.f4, hr.f5, hr.f6, hr.f7, hr.f8, (fun _ => rfl), hr.f10, hr.f11, hr.f12, hr.f13, hr.f14⟩⟩ (if_pos rfl) (fun j hj => if_neg hj)
      · revert hK
        obtain rfl := Option.some.inj ho
        have g9 : ℓ 9 = true := hdep { on := 9, ground := Ground.data } (by simp) rfl
        clear hdep ho
        have hlL : ℓ 15 = false := by
          cases h7 : ℓ 15
          · rfl
          · have := (hr.cl h7).2.2.2.2.2.2.2.2.2.2.1; rw [this] at hL; cases hL
        have hlG := hlL
        have hc := hr.cu hlG
        have ht := hr.tu hlG
        obtain rfl := hr.f9 g9
        intro hK
        rw [if_pos (by rfl)]
        try simp only [Act.put, List.setIfInBounds_toArray, List.set_cons_zero, List.set_cons_succ]
        go_simp
        exact hK.out _ _ (fun j => if j = 10 then true else ℓ j) ⟨x106, x107, x108, x109, x110, x111, x112, x113, x114, (.slice (some ⟨b, off, none⟩) 2 wc0), (.pointer (some ⟨b, off, none⟩)), x117, x118, x119, x120, (by simp only [Act.put, List.setIfInBounds_toArray, List.set_cons_zero, List.set_cons_succ]), ⟨(fun g7 => absurd (hlL.symm.trans g7) Bool.false_ne_true), hr.cu, hr.tu, (fun g7 => absurd (hlL.symm.trans g7) Bool.false_ne_true), hr.k14, hr.f0, hr.f1, hr.f2, hr.f3, hr.f4, hr.f5, hr.f6, hr.f7, hr.f8, hr.f9, (fun _ => rfl), hr.f11, hr.f12, hr.f13, hr.f14⟩⟩ (if_pos rfl) (fun j hj => if_neg hj)
      · revert hK
        obtain rfl := Option.some.inj ho
        have g10 : ℓ 10 = true := hdep { on := 10, ground := Ground.data } (by simp) rfl
        clear hdep ho
        have hlL : ℓ 15 = false := by
          cases h7 : ℓ 15
          · rfl
          · have := (hr.cl h7).2.2.2.2.2.2.2.2.2.2.2.1; rw [this] at hL; cases hL
        have hlG := hlL
        have hc := hr.cu hlG
        have ht := hr.tu hlG
        obtain rfl := hr.f10 g10
        intro hK
        rw [if_pos (by rfl)]
        try simp only [Act.put, List.setIfInBounds_toArray, List.set_cons_zero, List.set_cons_succ]
        go_simp
        exact hK.out _ _ (fun j => if j = 11 then true else ℓ j) ⟨x106, x107, x108, x109, x110, x111, x112, x113, x114, x115, (.pointer (some ⟨b, off, none⟩)), (.pointer (some ⟨b, off, none⟩)), x118, x119, x120, (by simp only [Act.put, List.setIfInBounds_toArray, List.set_cons_zero, List.set_cons_succ]), ⟨(fun g7 => absurd (hlL.symm.trans g7) Bool.false_ne_true), hr.cu, hr.tu, (fun g7 => absurd (hlL.symm.trans g7) Bool.false_ne_true), hr.k14, hr.f0, hr.f1, hr.f2, hr.f3, hr.f4, hr.f5, hr.f6, hr.f7, hr.f8, hr.f9, hr.f10, (fun _ => rfl), hr.f12, hr.f13, hr.f14⟩⟩ (if_pos rfl) (fun j hj => if_neg hj)
      · revert hK
        obtain rfl := Option.some.inj ho
        have g11 : ℓ 11 = true := hdep { on := 11, ground := Ground.data } (by simp) rfl
        clear hdep ho
        have hlL : ℓ 15 = false := by
          cases h7 : ℓ 15
          · rfl
          · have := (hr.cl h7).2.2.2.2.2.2.2.2.2.2.2.2.1; rw [this] at hL; cases hL
        have hlG := hlL
        have hc := hr.cu hlG
        have ht := hr.tu hlG
        obtain rfl := hr.f11 g11
        intro hK
        rw [if_pos (by rfl)]
        try simp only [Act.put, List.setIfInBounds_toArray, List.set_cons_zero, List.set_cons_succ]
        have cc := (show w'.cell? ⟨b, off, none⟩ = some (.int .i64 e0) from by rw [← HE0.out]; exact (HAN.out.turn HAB.out hc ht).o.wat 0 hp0 HWA.out 0 (by have := HW0.out; omega) 0 rfl)
        go_simp
        exact hK.out _ _ (fun j => if j = 12 then true else ℓ j) ⟨x106, x107, x108, x109, x110, x111, x112, x113, x114, x115, x116, (.pointer (some ⟨b, off, none⟩)), (.int .i64 e0), x119, x120, (by simp only [Act.put, List.setIfInBounds_toArray, List.set_cons_zero, List.set_cons_succ]), ⟨(fun g7 => absurd (hlL.symm.trans g7) Bool.false_ne_true), hr.cu, hr.tu, (fun g7 => absurd (hlL.symm.trans g7) Bool.false_ne_true), hr.k14, hr.f0, hr.f1, hr.f2, hr.f3, hr.f4, hr.f5, hr.f6, hr.f7, hr.f8, hr.f9, hr.f10, hr.f11, (fun _ => rfl), hr.f13, hr.f14⟩⟩ (if_pos rfl) (fun j hj => if_neg hj)
      · revert hK
        obtain rfl := Option.some.inj ho
        have g4 : ℓ 4 = true := hdep { on := 4, ground := Ground.data } (by simp) rfl
        have g0 : ℓ 0 = true := hdep { on := 0, ground := Ground.phase } (by simp) rfl
        have g1 : ℓ 1 = true := hdep { on := 1, ground := Ground.phase } (by simp) rfl
        have g2 : ℓ 2 = true := hdep { on := 2, ground := Ground.phase } (by simp) rfl
        have g3 : ℓ 3 = true := hdep { on := 3, ground := Ground.phase } (by simp) rfl
        have g5 : ℓ 5 = true := hdep { on := 5, ground := Ground.phase } (by simp) rfl
        have g6 : ℓ 6 = true := hdep { on := 6, ground := Ground.phase } (by simp) rfl
        have g7 : ℓ 7 = true := hdep { on := 7, ground := Ground.phase } (by simp) rfl
        have g8 : ℓ 8 = true := hdep { on := 8, ground := Ground.phase } (by simp) rfl
        have g9 : ℓ 9 = true := hdep { on := 9, ground := Ground.phase } (by simp) rfl
        have g10 : ℓ 10 = true := hdep { on := 10, ground := Ground.phase } (by simp) rfl
        have g11 : ℓ 11 = true := hdep { on := 11, ground := Ground.phase } (by simp) rfl
        have g12 : ℓ 12 = true := hdep { on := 12, ground := Ground.phase } (by simp) rfl
        clear hdep ho
        have hlL : ℓ 15 = false := by
          cases h7 : ℓ 15
          · rfl
          · have := (hr.cl h7).2.2.2.2.2.2.2.2.2.2.2.2.2.1; rw [this] at hL; cases hL
        have hlG := hlL
        have hc := hr.cu hlG
        have ht := hr.tu hlG
        obtain rfl := hr.f4 g4
        intro hK
        rw [if_pos (by rfl)]
        try simp only [Act.put, List.setIfInBounds_toArray, List.set_cons_zero, List.set_cons_succ]
        go_simp
        exact hK.out _ _ (fun j => if j = 13 then true else ℓ j) ⟨x106, x107, x108, x109, (.slice (some ⟨bw, ow, none⟩) 2 wc1), x111, x112, x113, x114, x115, x116, x117, x118, (.pointer (some ⟨bw, ow, none⟩)), x120, (by simp only [Act.put, List.setIfInBounds_toArray, List.set_cons_zero, List.set_cons_succ]), ⟨(fun g7 => absurd (hlL.symm.trans g7) Bool.false_ne_true), hr.cu, hr.tu, (fun g7 => absurd (hlL.symm.trans g7) Bool.false_ne_true), (fun g7 => ⟨rfl, trivial⟩), hr.f0, hr.f1, hr.f2, hr.f3, hr.f4, hr.f5, hr.f6, hr.f7, hr.f8, hr.f9, hr.f10, hr.f11, hr.f12, (fun _ => rfl), hr.f14⟩⟩ (if_pos rfl) (fun j hj => if_neg hj)
      · revert hK
        obtain rfl := Option.some.inj ho
        have g13 : ℓ 13 = true := hdep { on := 13, ground := Ground.data } (by simp) rfl
        have g0 : ℓ 0 = true := hdep { on := 0, ground := Ground.phase } (by simp) rfl
        have g1 : ℓ 1 = true := hdep { on := 1, ground := Ground.phase } (by simp) rfl
        have g2 : ℓ 2 = true := hdep { on := 2, ground := Ground.phase } (by simp) rfl
        have g3 : ℓ 3 = true := hdep { on := 3, ground := Ground.phase } (by simp) rfl
        have g4 : ℓ 4 = true := hdep { on := 4, ground := Ground.phase } (by simp) rfl
        have g5 : ℓ 5 = true := hdep { on := 5, ground := Ground.phase } (by simp) rfl
        have g6 : ℓ 6 = true := hdep { on := 6, ground := Ground.phase } (by simp) rfl
        have g7 : ℓ 7 = true := hdep { on := 7, ground := Ground.phase } (by simp) rfl
        have g8 : ℓ 8 = true := hdep { on := 8, ground := Ground.phase } (by simp) rfl
        have g9 : ℓ 9 = true := hdep { on := 9, ground := Ground.phase } (by simp) rfl
        have g10 : ℓ 10 = true := hdep { on := 10, ground := Ground.phase } (by simp) rfl
        have g11 : ℓ 11 = true := hdep { on := 11, ground := Ground.phase } (by simp) rfl
        have g12 : ℓ 12 = true := hdep { on := 12, ground := Ground.phase } (by simp) rfl
        clear hdep ho
        have hlL : ℓ 15 = false := by
          cases h7 : ℓ 15
          · rfl
          · have := (hr.cl h7).2.2.2.2.2.2.2.2.2.2.2.2.2.2.1; rw [this] at hL; cases hL
        have hlG := hlL
        have hc := hr.cu hlG
        have ht := hr.tu hlG
        obtain rfl := hr.f13 g13
        intro hK
        rw [if_pos (by rfl)]
        try simp only [Act.put, List.setIfInBounds_toArray, List.set_cons_zero, List.set_cons_succ]
        go_simp
        exact hK.out _ _ (fun j => if j = 14 then true else ℓ j) ⟨x106, x107, x108, x109, x110, x111, x112, x113, x114, x115, x116, x117, x118, (.pointer (some ⟨bw, ow, none⟩)), (.pointer (some ⟨bw, ow, none⟩)), (by simp only [Act.put, List.setIfInBounds_toArray, List.set_cons_zero, List.set_cons_succ]), ⟨(fun g7 => absurd (hlL.symm.trans g7) Bool.false_ne_true), hr.cu, hr.tu, (fun g7 => absurd (hlL.symm.trans g7) Bool.false_ne_true), (fun _ => ⟨g13, trivial⟩), hr.f0, hr.f1, hr.f2, hr.f3, hr.f4, hr.f5, hr.f6, hr.f7, hr.f8, hr.f9, hr.f10, hr.f11, hr.f12, hr.f13, (fun _ => rfl)⟩⟩ (if_pos rfl) (fun j hj => if_neg hj)
      · revert hK
        obtain rfl := Option.some.inj ho
        have g14 : ℓ 14 = true := hdep { on := 14, ground := Ground.data } (by simp) rfl
        have g12 : ℓ 12 = true := hdep { on := 12, ground := Ground.data } (by simp) rfl
        have g0 : ℓ 0 = true := hdep { on := 0, ground := Ground.phase } (by simp) rfl
        have g1 : ℓ 1 = true := hdep { on := 1, ground := Ground.phase } (by simp) rfl
        have g2 : ℓ 2 = true := hdep { on := 2, ground := Ground.phase } (by simp) rfl
        have g3 : ℓ 3 = true := hdep { on := 3, ground := Ground.phase } (by simp) rfl
        have g4 : ℓ 4 = true := hdep { on := 4, ground := Ground.phase } (by simp) rfl
        have g5 : ℓ 5 = true := hdep { on := 5, ground := Ground.phase } (by simp) rfl
        have g6 : ℓ 6 = true := hdep { on := 6, ground := Ground.phase } (by simp) rfl
        have g7 : ℓ 7 = true := hdep { on := 7, ground := Ground.phase } (by simp) rfl
        have g8 : ℓ 8 = true := hdep { on := 8, ground := Ground.phase } (by simp) rfl
        have g9 : ℓ 9 = true := hdep { on := 9, ground := Ground.phase } (by simp) rfl
        have g10 : ℓ 10 = true := hdep { on := 10, ground := Ground.phase } (by simp) rfl
        have g11 : ℓ 11 = true := hdep { on := 11, ground := Ground.phase } (by simp) rfl
        clear hdep ho
        have hc := hr.cu hL
        have ht := hr.tu hL
        obtain rfl := hr.f14 g14
        obtain rfl := hr.f12 g12
        intro hK
        rw [if_pos (by rfl)]
        try simp only [Act.put, List.setIfInBounds_toArray, List.set_cons_zero, List.set_cons_succ]
        have cc := (show w'.cell? ⟨bw, ow, none⟩ = some (.int .i64 ((t.ps.getD 1 pt0).ws.getD 0 wi0).1) from (HAN.out.turn HAB.out hc ht).o.wat 1 hp1 HWB.out 0 (by have := HW1.out; omega) 0 rfl)
        have cf := (HAN.out.turn HAB.out hc ht).o.wfr (by have := HAB.out.l; omega) 1 hp1 HWB.out (by have := HW1.out; omega) ow
        go_simp
        exact hK.out _ _ (fun j => if j = 15 then true else ℓ j) ⟨x106, x107, x108, x109, x110, x111, x112, x113, x114, x115, x116, x117, (.int .i64 e0), x119, (.pointer (some ⟨bw, ow, none⟩)), (by simp only [Act.put, List.setIfInBounds_toArray, List.set_cons_zero, List.set_cons_succ]), ⟨(fun _ => ⟨g0, g1, g2, g3, g4, g5, g6, g7, g8, g9, g10, g11, g12, (hr.k14 g14).1, g14, trivial⟩), (fun g => by cases g), (fun g => by cases g), (fun _ => ⟨w', hc, ht, rfl⟩), hr.k14, hr.f0, hr.f1, hr.f2, hr.f3, hr.f4, hr.f5, hr.f6, hr.f7, hr.f8, hr.f9, hr.f10, hr.f11, hr.f12, hr.f13, hr.f14⟩⟩ (if_pos rfl) (fun j hj => if_neg hj)
    · rintro a' w' ℓ ℓ' hℓ hI
      rw [← show ℓ = ℓ' from funext hℓ]
      exact hI
  · clear hx0 hx1
    have hp2 : 2 ≤ ad.pn := by have := HDT.out.n; have := HAN.out.w.pl; omega
    have hp0 : 0 < ad.pn := by omega
    have hpi : (0 : Int) < (ad.pn : Int) := by omega
    obtain ⟨g, hpa⟩ := HAN.out.o.pab hp0
    have HPA : Hid (ad.pa = some ⟨g, 0, none⟩) := hpa
    have v15 : w4.cell? ⟨VB, 15, none⟩ = some (.slice (some ⟨g, 0, none⟩) ad.pn ad.pc) := by rw [← hpa]; exact HAN.out.rv.cell 15 rfl
    clear hpa
    obtain ⟨g', e', hfz, hcl, T9, A9, hT9, HA⟩ := HAN.out.setp HAB.out 0 2 hp0 (by decide) (.int .i64 3) ({ ad.Y 0 with kd := 3 }) ({ t.ps.getD 0 pt0 with kd := 3 }) rfl (by have q := HAN.out.o.pw 0 hp0; exact ⟨q.nm, q.en, rfl, q.ms, q.ln, q.cp⟩) (.inl ⟨rfl, rfl, rfl⟩) (by have := HAN.out.s.w 0 hp0; show _ ≤ 1048576; first | exact this.2 | simp) (.inl rfl)
    rw [HPA.out] at e'
    cases e'
    have HA7 : Hid (AN w (w4.setCell ⟨g, 2, none⟩ (.int .i64 3)) B a zs cap VB lo T9 A9) := HA
    have c9 : w4.cell? ⟨g, 2, none⟩ = some (.int .i64 (ad.Y 0).kd) := hcl _ rfl
    have f9 : w4.frozen? ⟨g, 2, none⟩ = false := hfz _
    clear hfz hcl HA hT9
    have HBE : Hid _ := HA7.out.fin HAB.out.b HAB.out.l
    have HBR : Hid _ := HA7.out.rv
    have HB0 : Hid _ := HA7.out.r0
    have HBX : Hid (DA w (World.setRow (w4.setCell ⟨g, 2, none⟩ (.int .i64 3)) w.heap.size (tbA T9 A9)) B a zs cap T9 A9) := ⟨HBE.out.2.1, HA7.out.w, HA7.out.s, HA7.out.c1, HA7.out.c2, HA7.out.p2, HBE.out.2.2.1, HBE.out.2.2.2⟩
    go_wp2_with (first | (refine wpList_load_row rfl 33 (.tmp 3) rfl VB rfl 33 (tbA T9 A9) (0, 0) _ HBR.out Tryz.underlying33 rfl (by kernel_rfl) ?_) | (refine wpList_store_row rfl 33 (.tmp 2) (.tmp 213) rfl w.heap.size (tbA T9 A9) rfl rfl 33 (#[.int .i64 0, .int .i64 0, .int .i64 0, .int .i64 0, .int .i64 0, .int .i64 0, .int .i64 0, .int .i64 0, .int .i64 0, .int .i64 0, .int .i64 0, .int .i64 0, .int .i64 0, .int .i64 0, .int .i64 0, .slice none 0 0, .slice none 0 0, .slice none 0 0, .slice none 0 0]) HB0.out (by kernel_rfl) rfl (by simp [Value.oneCell']) ?_) | fail)
    refine bodyPost_ret (v := tbV T9 A9) (res_any HBE.out.1 rfl rfl) rfl ⟨T9, A9, rfl, HBX.out⟩
  · clear hx0 hx1
    have hp2 : 2 ≤ ad.pn := by have := HDT.out.n; have := HAN.out.w.pl; omega
    have hp0 : 0 < ad.pn := by omega
    have hpi : (0 : Int) < (ad.pn : Int) := by omega
    obtain ⟨g, hpa⟩ := HAN.out.o.pab hp0
    have HPA : Hid (ad.pa = some ⟨g, 0, none⟩) := hpa
    have v15 : w4.cell? ⟨VB, 15, none⟩ = some (.slice (some ⟨g, 0, none⟩) ad.pn ad.pc) := by rw [← hpa]; exact HAN.out.rv.cell 15 rfl
    clear hpa
    have HA6 : Hid (AN w (w4.alloc (.cells #[] 74)) B a zs cap VB lo t ad) := HAN.out.alloc _
    obtain ⟨g', e', hfz, hcl, T9, A9, hT9, HA⟩ := HA6.out.setp HAB.out 0 4 hp0 (by decide) (.slice (some ⟨w4.heap.size, 0, none⟩) 0 0) ({ ad.Y 0 with wa := some ⟨w4.heap.size, 0, none⟩, wn := 0, wc := 0 }) ({ t.ps.getD 0 pt0 with ws := [] }) rfl (by have q := HA6.out.o.pw 0 hp0; exact ⟨q.nm, q.en, q.kd, q.ms, rfl, Nat.le_refl _⟩) (.inr rfl) (by have := HA6.out.s.w 0 hp0; show _ ≤ 1048576; first | exact this.2 | simp) (.inr rfl)
    rw [HPA.out] at e'
    cases e'
    have HA7 : Hid (AN w ((w4.alloc (.cells #[] 74)).setCell ⟨g, 4, none⟩ (.slice (some ⟨w4.heap.size, 0, none⟩) 0 0)) B a zs cap VB lo T9 A9) := HA
    have c9 : (w4.alloc (.cells #[] 74)).cell? ⟨g, 4, none⟩ = some (.slice (ad.Y 0).wa (ad.Y 0).wn (ad.Y 0).wc) := hcl _ rfl
    have f9 : (w4.alloc (.cells #[] 74)).frozen? ⟨g, 4, none⟩ = false := hfz _
    clear hfz hcl HA hT9
    have HBE : Hid _ := HA7.out.fin HAB.out.b HAB.out.l
    have HBR : Hid _ := HA7.out.rv
    have HB0 : Hid _ := HA7.out.r0
    have HBX : Hid (DA w (World.setRow ((w4.alloc (.cells #[] 74)).setCell ⟨g, 4, none⟩ (.slice (some ⟨w4.heap.size, 0, none⟩) 0 0)) w.heap.size (tbA T9 A9)) B a zs cap T9 A9) := ⟨HBE.out.2.1, HA7.out.w, HA7.out.s, HA7.out.c1, HA7.out.c2, HA7.out.p2, HBE.out.2.2.1, HBE.out.2.2.2⟩
    go_wp2_with (first | (refine wpList_load_row rfl 33 (.tmp 3) rfl VB rfl 33 (tbA T9 A9) (0, 0) _ HBR.out Tryz.underlying33 rfl (by kernel_rfl) ?_) | (refine wpList_store_row rfl 33 (.tmp 2) (.tmp 213) rfl w.heap.size (tbA T9 A9) rfl rfl 33 (#[.int .i64 0, .int .i64 0, .int .i64 0, .int .i64 0, .int .i64 0, .int .i64 0, .int .i64 0, .int .i64 0, .int .i64 0, .int .i64 0, .int .i64 0, .int .i64 0, .int .i64 0, .int .i64 0, .int .i64 0, .slice none 0 0, .slice none 0 0, .slice none 0 0, .slice none 0 0]) HB0.out (by kernel_rfl) rfl (by simp [Value.oneCell']) ?_) | fail)
    refine bodyPost_ret (v := tbV T9 A9) (res_any HBE.out.1 rfl rfl) rfl ⟨T9, A9, rfl, HBX.out⟩
  · clear hx0 hx1
    obtain ⟨iE, hiE⟩ := int_info'
    have HIE : Hid (Tryz.prog.info? 3 = some iE ∧ iE.zero = some (.int .i64 0) ∧ iE.size = 1 ∧ iE.bytes = 8) := hiE
    clear hiE
    have hfew : ad.dn ≤ 100 := by have := HDT.out.d.1; have := HAN.out.w.dl; omega
    have HCU0 : Hid (Cur w4 B a zs cap) := HAN.out.ct.cur
    have HBW : Hid (B < w4.heap.size) := HAN.out.ct.cur.lt
    go_wp2
    refine wp_region_inv (by kernel_rfl) (by kernel_rfl) (fun AC ℓ a' w' => ∃ (x137 x138 x139 x140 x141 x142 x143 x144 x145 x146 x147 : Value), a' = (((((((((((AC.put (some 137) x137).put (some 138) x138).put (some 139) x139).put (some 140) x140).put (some 141) x141).put (some 142) x142).put (some 143) x143).put (some 144) x144).put (some 145) x145).put (some 146) x146).put (some 147) x147) ∧ D12 (w4) B a zs cap (⟨VB, 16, none⟩) (.slice ad.da ad.dn ad.dc) (ad.dn) lo (flr ad.dn (inX t.ds)) (fun _ => True) VB t ad w' (ℓ 0) (ℓ 1) (ℓ 2) (ℓ 3) (ℓ 4) (ℓ 5) (ℓ 6) (ℓ 7) (ℓ 8) (ℓ 9) (ℓ 10) (ℓ 11) x137 x138 x139 x140 x141 x142 x143 x144 x145 x146 x147) ?_ ?_ ?_ ?_
    · exact ⟨undef, undef, undef, undef, undef, undef, undef, undef, undef, undef, undef, (by simp only [Act.put, List.setIfInBounds_toArray, List.set_cons_zero, List.set_cons_succ]), ⟨(fun g => by cases g), (fun g => by cases g), (fun _ => HCU0.out.drewN 1), (fun _ => (Turn.refl _ _).drewN 1), (fun g => by cases g), (fun g => by cases g), (fun g => by cases g), (fun g => by cases g), (fun g => by cases g), (fun g => by cases g), (fun g => by cases g), (fun g => by cases g), (fun g => by cases g), (fun g => by cases g), (fun g => by cases g), (fun g => by cases g), (fun g => by cases g), (fun g => by cases g), (fun g => by cases g), (fun g => by cases g), (fun g => by cases g), (fun g => by cases g)⟩⟩
    · intro ℓ a' w' hI hall
      obtain ⟨x137, x138, x139, x140, x141, x142, x143, x144, x145, x146, x147, rfl, hr⟩ := hI
      have hall' : ∀ i, i < 12 → ℓ i = true := hall
      obtain ⟨g9, c9, y9, V, W1, rfl, hy9, hcV, htV, _, hg9, ho9, hat9, rfl⟩ := hr.la (hall' 11 (by decide))
      obtain rfl := hr.f0 (hall' 0 (by decide))
      obtain rfl := hr.f1 (hall' 1 (by decide))
      obtain rfl := hr.f2 (hall' 2 (by decide))
      obtain rfl := hr.f3 (hall' 3 (by decide))
      obtain rfl := hr.f4 (hall' 4 (by decide))
      obtain rfl := hr.f5 (hall' 5 (by decide))
      obtain ⟨yy7, rfl, hyy7⟩ := hr.f7 (hall' 7 (by decide))
      obtain rfl := hr.f10 (hall' 10 (by decide))
      clear hr hall hall'
      simp only [Act.put, List.setIfInBounds_toArray, List.set_cons_zero, List.set_cons_succ]
      have HA6 : Hid (AN w V B a zs cap VB lo t ad) := HAN.out.turn HAB.out hcV htV
      have HA7 : Hid (AN w (W1.setCell ⟨VB, 16, none⟩ (.slice (some ⟨g9, 0, none⟩) (ad.dn + 1) c9)) B a zs cap VB lo { t with ds := t.ds ++ [y9] } { ad with da := some ⟨g9, 0, none⟩, dn := ad.dn + 1, dc := c9 }) := AN.appd HA6.out HAB.out (by have := HLV.out; have := HA6.out.rv.lt; omega) hfew ho9 hg9 hat9
      have HBE : Hid _ := HA7.out.fin HAB.out.b HAB.out.l
      have HBR : Hid _ := HA7.out.rv
      have HB0 : Hid _ := HA7.out.r0
      have HBX : Hid (DA w (World.setRow (W1.setCell ⟨VB, 16, none⟩ (.slice (some ⟨g9, 0, none⟩) (ad.dn + 1) c9)) w.heap.size (tbA { t with ds := t.ds ++ [y9] } { ad with da := some ⟨g9, 0, none⟩, dn := ad.dn + 1, dc := c9 })) B a zs cap { t with ds := t.ds ++ [y9] } { ad with da := some ⟨g9, 0, none⟩, dn := ad.dn + 1, dc := c9 }) := ⟨HBE.out.2.1, HA7.out.w, HA7.out.s, HA7.out.c1, HA7.out.c2, HA7.out.p2, HBE.out.2.2.1, HBE.out.2.2.2⟩
      go_wp2_with (first | (refine wpList_load_row rfl 33 (.tmp 3) rfl VB rfl 33 (tbA { t with ds := t.ds ++ [y9] } { ad with da := some ⟨g9, 0, none⟩, dn := ad.dn + 1, dc := c9 }) (0, 0) _ HBR.out Tryz.underlying33 rfl (by kernel_rfl) ?_) | (refine wpList_store_row rfl 33 (.tmp 2) (.tmp 213) rfl w.heap.size (tbA { t with ds := t.ds ++ [y9] } { ad with da := some ⟨g9, 0, none⟩, dn := ad.dn + 1, dc := c9 }) rfl rfl 33 (#[.int .i64 0, .int .i64 0, .int .i64 0, .int .i64 0, .int .i64 0, .int .i64 0, .int .i64 0, .int .i64 0, .int .i64 0, .int .i64 0, .int .i64 0, .int .i64 0, .int .i64 0, .int .i64 0, .int .i64 0, .slice none 0 0, .slice none 0 0, .slice none 0 0, .slice none 0 0]) HB0.out (by kernel_rfl) rfl (by simp [Value.oneCell']) ?_) | fail)
      refine bodyPost_ret (v := tbV { t with ds := t.ds ++ [y9] } { ad with da := some ⟨g9, 0, none⟩, dn := ad.dn + 1, dc := c9 }) (res_any HBE.out.1 rfl rfl) rfl ⟨{ t with ds := t.ds ++ [y9] }, { ad with da := some ⟨g9, 0, none⟩, dn := ad.dn + 1, dc := c9 }, rfl, HBX.out⟩
    · intro ℓ a' w' i o hI ho hi hL hdep K hK
      obtain ⟨x137, x138, x139, x140, x141, x142, x143, x144, x145, x146, x147, rfl, hr⟩ := hI
      have hi7 : i < 12 := hi
      have hcs : i = 0 ∨ i = 1 ∨ i = 2 ∨ i = 3 ∨ i = 4 ∨ i = 5 ∨ i = 6 ∨ i = 7 ∨ i = 8 ∨ i = 9 ∨ i = 10 ∨ i = 11 := by omega
      clear hi hi7
      rcases hcs with rfl | rfl | rfl | rfl | rfl | rfl | rfl | rfl | rfl | rfl | rfl | rfl
      · revert hK
        obtain rfl := Option.some.inj ho
        clear hdep ho
        have hlL : ℓ 11 = false := by
          cases h7 : ℓ 11
          · rfl
          · have := (hr.cl h7).1; rw [this] at hL; cases hL
        have hlG : ℓ 9 = false := by
          cases h7 : ℓ 9
          · rfl
          · have := (hr.cq h7).1; rw [this] at hL; cases hL
        have hc := hr.cu hlG
        have ht := hr.tu hlG
        intro hK
        rw [if_pos (by rfl)]
        try simp only [Act.put, List.setIfInBounds_toArray, List.set_cons_zero, List.set_cons_succ]
        go_simp
        exact hK.out _ _ (fun j => if j = 0 then true else ℓ j) ⟨(.pointer (some ⟨VB, 16, none⟩)), x138, x139, x140, x141, x142, x143, x144, x145, x146, x147, (by simp only [Act.put, List.setIfInBounds_toArray, List.set_cons_zero, List.set_cons_succ]), ⟨(fun g7 => absurd (hlL.symm.trans g7) Bool.false_ne_true), (fun g7 => absurd (hlG.symm.trans g7) Bool.false_ne_true), hr.cu, hr.tu, (fun g7 => absurd (hlG.symm.trans g7) Bool.false_ne_true), (fun g7 => absurd (hlL.symm.trans g7) Bool.false_ne_true), (fun g7 => ⟨rfl, trivial⟩), hr.k4, hr.k5, hr.k6, hr.k7, hr.k8, (fun _ => rfl), hr.f1, hr.f2, hr.f3, hr.f4, hr.f5, hr.f6, hr.f7, hr.f8, hr.f10⟩⟩ (if_pos rfl) (fun j hj => if_neg hj)
      · revert hK
        obtain rfl := Option.some.inj ho
        have g0 : ℓ 0 = true := hdep { on := 0, ground := Ground.data } (by simp) rfl
        clear hdep ho
        have hlL : ℓ 11 = false := by
          cases h7 : ℓ 11
          · rfl
          · have := (hr.cl h7).2.1; rw [this] at hL; cases hL
        have hlG : ℓ 9 = false := by
          cases h7 : ℓ 9
          · rfl
          · have := (hr.cq h7).2.1; rw [this] at hL; cases hL
        have hc := hr.cu hlG
        have ht := hr.tu hlG
        obtain rfl := hr.f0 g0
        intro hK
        rw [if_pos (by rfl)]
        try simp only [Act.put, List.setIfInBounds_toArray, List.set_cons_zero, List.set_cons_succ]
        have cc := (show w'.cell? ⟨VB, 16, none⟩ = some (.slice ad.da ad.dn ad.dc) from (HAN.out.turn HAB.out hc ht).rv.cell 16 rfl)
        go_simp
        exact hK.out _ _ (fun j => if j = 1 then true else ℓ j) ⟨(.pointer (some ⟨VB, 16, none⟩)), (.slice ad.da ad.dn ad.dc), x139, x140, x141, x142, x143, x144, x145, x146, x147, (by simp only [Act.put, List.setIfInBounds_toArray, List.set_cons_zero, List.set_cons_succ]), ⟨(fun g7 => absurd (hlL.symm.trans g7) Bool.false_ne_true), (fun g7 => absurd (hlG.symm.trans g7) Bool.false_ne_true), hr.cu, hr.tu, (fun g7 => absurd (hlG.symm.trans g7) Bool.false_ne_true), (fun g7 => absurd (hlL.symm.trans g7) Bool.false_ne_true), (fun _ => ⟨g0, trivial⟩), hr.k4, hr.k5, hr.k6, hr.k7, hr.k8, hr.f0, (fun _ => rfl), hr.f2, hr.f3, hr.f4, hr.f5, hr.f6, hr.f7, hr.f8, hr.f10⟩⟩ (if_pos rfl) (fun j hj => if_neg hj)
      · revert hK
        obtain rfl := Option.some.inj ho
        clear hdep ho
        have hlL : ℓ 11 = false := by
          cases h7 : ℓ 11
          · rfl
          · have := (hr.cl h7).2.2.1; rw [this] at hL; cases hL
        have hlG : ℓ 9 = false := by
          cases h7 : ℓ 9
          · rfl
          · have := (hr.cq h7).2.2.1; rw [this] at hL; cases hL
        have hc := hr.cu hlG
        have ht := hr.tu hlG
        intro hK
        rw [if_pos (by rfl)]
        try simp only [Act.put, List.setIfInBounds_toArray, List.set_cons_zero, List.set_cons_succ]
        go_simp
        exact hK.out _ _ (fun j => if j = 2 then true else ℓ j) ⟨x137, x138, (.pointer (some ⟨B, 0, none⟩)), x140, x141, x142, x143, x144, x145, x146, x147, (by simp only [Act.put, List.setIfInBounds_toArray, List.set_cons_zero, List.set_cons_succ]), ⟨(fun g7 => absurd (hlL.symm.trans g7) Bool.false_ne_true), (fun g7 => absurd (hlG.symm.trans g7) Bool.false_ne_true), hr.cu, hr.tu, (fun g7 => absurd (hlG.symm.trans g7) Bool.false_ne_true), (fun g7 => absurd (hlL.symm.trans g7) Bool.false_ne_true), hr.k1, hr.k4, hr.k5, hr.k6, (fun g7 => ⟨rfl, (hr.k7 g7).2.1, trivial⟩), hr.k8, hr.f0, hr.f1, (fun _ => rfl), hr.f3, hr.f4, hr.f5, hr.f6, hr.f7, hr.f8, hr.f10⟩⟩ (if_pos rfl) (fun j hj => if_neg hj)
      · revert hK
        obtain rfl := Option.some.inj ho
        clear hdep ho
        have hlL : ℓ 11 = false := by
          cases h7 : ℓ 11
          · rfl
          · have := (hr.cl h7).2.2.2.1; rw [this] at hL; cases hL
        have hlG : ℓ 9 = false := by
          cases h7 : ℓ 9
          · rfl
          · have := (hr.cq h7).2.2.2.1; rw [this] at hL; cases hL
        have hc := hr.cu hlG
        have ht := hr.tu hlG
        intro hK
        rw [if_pos (by rfl)]
        try simp only [Act.put, List.setIfInBounds_toArray, List.set_cons_zero, List.set_cons_succ]
        go_simp
        exact hK.out _ _ (fun j => if j = 3 then true else ℓ j) ⟨x137, x138, x139, (.pointer (some ⟨VB, 15, none⟩)), x141, x142, x143, x144, x145, x146, x147, (by simp only [Act.put, List.setIfInBounds_toArray, List.set_cons_zero, List.set_cons_succ]), ⟨(fun g7 => absurd (hlL.symm.trans g7) Bool.false_ne_true), (fun g7 => absurd (hlG.symm.trans g7) Bool.false_ne_true), hr.cu, hr.tu, (fun g7 => absurd (hlG.symm.trans g7) Bool.false_ne_true), (fun g7 => absurd (hlL.symm.trans g7) Bool.false_ne_true), hr.k1, (fun g7 => ⟨rfl, trivial⟩), hr.k5, hr.k6, hr.k7, hr.k8, hr.f0, hr.f1, hr.f2, (fun _ => rfl), hr.f4, hr.f5, hr.f6, hr.f7, hr.f8, hr.f10⟩⟩ (if_pos rfl) (fun j hj => if_neg hj)
      · revert hK
        obtain rfl := Option.some.inj ho
        have g3 : ℓ 3 = true := hdep { on := 3, ground := Ground.data } (by simp) rfl
        clear hdep ho
        have hlL : ℓ 11 = false := by
          cases h7 : ℓ 11
          · rfl
          · have := (hr.cl h7).2.2.2.2.1; rw [this] at hL; cases hL
        have hlG : ℓ 9 = false := by
          cases h7 : ℓ 9
          · rfl
          · have := (hr.cq h7).2.2.2.2.1; rw [this] at hL; cases hL
        have hc := hr.cu hlG
        have ht := hr.tu hlG
        obtain rfl := hr.f3 g3
        intro hK
        rw [if_pos (by rfl)]
        try simp only [Act.put, List.setIfInBounds_toArray, List.set_cons_zero, List.set_cons_succ]
        have cc := (show w'.cell? ⟨VB, 15, none⟩ = some (.slice ad.pa ad.pn ad.pc) from (HAN.out.turn HAB.out hc ht).rv.cell 15 rfl)
        go_simp
        exact hK.out _ _ (fun j => if j = 4 then true else ℓ j) ⟨x137, x138, x139, (.pointer (some ⟨VB, 15, none⟩)), (.slice ad.pa ad.pn ad.pc), x142, x143, x144, x145, x146, x147, (by simp only [Act.put, List.setIfInBounds_toArray, List.set_cons_zero, List.set_cons_succ]), ⟨(fun g7 => absurd (hlL.symm.trans g7) Bool.false_ne_true), (fun g7 => absurd (hlG.symm.trans g7) Bool.false_ne_true), hr.cu, hr.tu, (fun g7 => absurd (hlG.symm.trans g7) Bool.false_ne_true), (fun g7 => absurd (hlL.symm.trans g7) Bool.false_ne_true), hr.k1, (fun _ => ⟨g3, trivial⟩), (fun g7 => ⟨rfl, trivial⟩), hr.k6, hr.k7, hr.k8, hr.f0, hr.f1, hr.f2, hr.f3, (fun _ => rfl), hr.f5, hr.f6, hr.f7, hr.f8, hr.f10⟩⟩ (if_pos rfl) (fun j hj => if_neg hj)
      · revert hK
        obtain rfl := Option.some.inj ho
        have g4 : ℓ 4 = true := hdep { on := 4, ground := Ground.data } (by simp) rfl
        clear hdep ho
        have hlL : ℓ 11 = false := by
          cases h7 : ℓ 11
          · rfl
          · have := (hr.cl h7).2.2.2.2.2.1; rw [this] at hL; cases hL
        have hlG : ℓ 9 = false := by
          cases h7 : ℓ 9
          · rfl
          · have := (hr.cq h7).2.2.2.2.2.1; rw [this] at hL; cases hL
        have hc := hr.cu hlG
        have ht := hr.tu hlG
        obtain rfl := hr.f4 g4
        intro hK
        rw [if_pos (by rfl)]
        try simp only [Act.put, List.setIfInBounds_toArray, List.set_cons_zero, List.set_cons_succ]
        go_simp
        exact hK.out _ _ (fun j => if j = 5 then true else ℓ j) ⟨x137, x138, x139, x140, (.slice ad.pa ad.pn ad.pc), (.int .i64 (ad.pn : Int)), x143, x144, x145, x146, x147, (by simp only [Act.put, List.setIfInBounds_toArray, List.set_cons_zero, List.set_cons_succ]), ⟨(fun g7 => absurd (hlL.symm.trans g7) Bool.false_ne_true), (fun g7 => absurd (hlG.symm.trans g7) Bool.false_ne_true), hr.cu, hr.tu, (fun g7 => absurd (hlG.symm.trans g7) Bool.false_ne_true), (fun g7 => absurd (hlL.symm.trans g7) Bool.false_ne_true), hr.k1, hr.k4, (fun _ => ⟨g4, trivial⟩), (fun g7 => ⟨rfl, trivial⟩), hr.k7, hr.k8, hr.f0, hr.f1, hr.f2, hr.f3, hr.f4, (fun _ => rfl), hr.f6, hr.f7, hr.f8, hr.f10⟩⟩ (if_pos rfl) (fun j hj => if_neg hj)
      · revert hK
        obtain rfl := Option.some.inj ho
        have g5 : ℓ 5 = true := hdep { on := 5, ground := Ground.data } (by simp) rfl
        clear hdep ho
        have hlL : ℓ 11 = false := by
          cases h7 : ℓ 11
          · rfl
          · have := (hr.cl h7).2.2.2.2.2.2.1; rw [this] at hL; cases hL
        have hlG : ℓ 9 = false := by
          cases h7 : ℓ 9
          · rfl
          · have := (hr.cq h7).2.2.2.2.2.2.1; rw [this] at hL; cases hL
        have hc := hr.cu hlG
        have ht := hr.tu hlG
        obtain rfl := hr.f5 g5
        intro hK
        rw [if_pos (by rfl)]
        try simp only [Act.put, List.setIfInBounds_toArray, List.set_cons_zero, List.set_cons_succ]
        have hbA : Below w'.heap.size w' (w'.alloc (.cells #[.int .i64 (-1), .int .i64 (ad.pn : Int)] 3)) := (Below.refl _ _).alloc (Nat.le_refl _) _
        have htA := Turn.of_below (B := B) hbA
        go_simp
        exact hK.out _ _ (fun j => if j = 6 then true else ℓ j) ⟨x137, x138, x139, x140, x141, (.int .i64 (ad.pn : Int)), (.slice (some ⟨w'.heap.size, 0, none⟩) 2 2), x144, x145, x146, x147, (by simp only [Act.put, List.setIfInBounds_toArray, List.set_cons_zero, List.set_cons_succ]), ⟨(fun g7 => absurd (hlL.symm.trans g7) Bool.false_ne_true), (fun g7 => absurd (hlG.symm.trans g7) Bool.false_ne_true), (fun _ => hc.below hbA), (fun _ => ht.trans htA), (fun g7 => absurd (hlG.symm.trans g7) Bool.false_ne_true), (fun g7 => absurd (hlL.symm.trans g7) Bool.false_ne_true), hr.k1, hr.k4, hr.k5, (fun _ => ⟨g5, trivial⟩), (fun g7 => ⟨(hr.k7 g7).1, rfl, trivial⟩), hr.k8, hr.f0, hr.f1, hr.f2, hr.f3, hr.f4, hr.f5, (fun _ _ => ⟨w'.heap.size, rfl, ht.size, own_litD .i64 w' 3 [(-1), (ad.pn : Int)]⟩), hr.f7, (fun e1 e2 => by obtain ⟨g3, y3, q1, q2, q4, q3⟩ := hr.f8 e1 hlG; exact ⟨g3, y3, q1, q2, q4, (q3.turn htA (by have := HBW.out; omega))⟩), hr.f10⟩⟩ (if_pos rfl) (fun j hj => if_neg hj)
      · revert hK
        obtain rfl := Option.some.inj ho
        have g2 : ℓ 2 = true := hdep { on := 2, ground := Ground.data } (by simp) rfl
        have g6 : ℓ 6 = true := hdep { on := 6, ground := Ground.data } (by simp) rfl
        clear hdep ho
        have hlL : ℓ 11 = false := by
          cases h7 : ℓ 11
          · rfl
          · have := (hr.cl h7).2.2.2.2.2.2.2.1; rw [this] at hL; cases hL
        have hlG : ℓ 9 = false := by
          cases h7 : ℓ 9
          · rfl
          · have := (hr.cq h7).2.2.2.2.2.2.2.1; rw [this] at hL; cases hL
        have hc := hr.cu hlG
        have ht := hr.tu hlG
        obtain rfl := hr.f2 g2
        obtain ⟨g, rfl, hgg, hgo⟩ := hr.f6 g6 hlG
        intro hK
        rw [if_pos (by rfl)]
        try simp only [Act.put, List.setIfInBounds_toArray, List.set_cons_zero, List.set_cons_succ]
        go_simp
        refine (draw_pick w' B g a zs cap [(-1), (ad.pn : Int)] hc hgo (by have := HBW.out; omega) (by simp) (by simp)).mono ?_
        rintro e w9 ⟨y, rfl, hyy, hc9, ht9⟩
        exact hK.out _ _ (fun j => if j = 7 then true else ℓ j) ⟨x137, x138, (.pointer (some ⟨B, 0, none⟩)), x140, x141, x142, (.slice (some ⟨g, 0, none⟩) 2 2), (.int .i64 y), x145, x146, x147, (by simp only [Act.put, List.setIfInBounds_toArray, List.set_cons_zero, List.set_cons_succ]), ⟨(fun g7 => absurd (hlL.symm.trans g7) Bool.false_ne_true), (fun g7 => absurd (hlG.symm.trans g7) Bool.false_ne_true), (fun _ => hc9), (fun _ => ht.trans ht9), (fun g7 => absurd (hlG.symm.trans g7) Bool.false_ne_true), (fun g7 => absurd (hlL.symm.trans g7) Bool.false_ne_true), hr.k1, hr.k4, hr.k5, hr.k6, (fun _ => ⟨g2, g6, trivial⟩), (fun g7 => ⟨rfl, trivial⟩), hr.f0, hr.f1, hr.f2, hr.f3, hr.f4, hr.f5, (fun e1 e2 => by obtain ⟨g3, q1, q2, q3⟩ := hr.f6 e1 hlG; exact ⟨g3, q1, q2, (own_turn q3 ht9 (by have := HBW.out; omega))⟩), (fun _ => ⟨y, rfl, hyy⟩), (fun e1 e2 => by obtain ⟨g3, y3, q1, q2, q4, q3⟩ := hr.f8 e1 hlG; exact ⟨g3, y3, q1, q2, q4, (q3.turn ht9 (by have := HBW.out; omega))⟩), hr.f10⟩⟩ (if_pos rfl) (fun j hj => if_neg hj)
      · revert hK
        obtain rfl := Option.some.inj ho
        have g7 : ℓ 7 = true := hdep { on := 7, ground := Ground.data } (by simp) rfl
        clear hdep ho
        have hlL : ℓ 11 = false := by
          cases h7 : ℓ 11
          · rfl
          · have := (hr.cl h7).2.2.2.2.2.2.2.2.1; rw [this] at hL; cases hL
        have hlG : ℓ 9 = false := by
          cases h7 : ℓ 9
          · rfl
          · have := (hr.cq h7).2.2.2.2.2.2.2.2.1; rw [this] at hL; cases hL
        have hc := hr.cu hlG
        have ht := hr.tu hlG
        obtain ⟨y, rfl, hyy⟩ := hr.f7 g7
        intro hK
        rw [if_pos (by rfl)]
        try simp only [Act.put, List.setIfInBounds_toArray, List.set_cons_zero, List.set_cons_succ]
        have hbA : Below w'.heap.size w' (w'.alloc (.cells #[.int .i64 y] 3)) := (Below.refl _ _).alloc (Nat.le_refl _) _
        have htA := Turn.of_below (B := B) hbA
        go_simp
        exact hK.out _ _ (fun j => if j = 8 then true else ℓ j) ⟨x137, x138, x139, x140, x141, x142, x143, (.int .i64 y), (.slice (some ⟨w'.heap.size, 0, none⟩) 1 1), x146, x147, (by simp only [Act.put, List.setIfInBounds_toArray, List.set_cons_zero, List.set_cons_succ]), ⟨(fun g7 => absurd (hlL.symm.trans g7) Bool.false_ne_true), (fun g7 => absurd (hlG.symm.trans g7) Bool.false_ne_true), (fun _ => hc.below hbA), (fun _ => ht.trans htA), (fun g7 => absurd (hlG.symm.trans g7) Bool.false_ne_true), (fun g7 => absurd (hlL.symm.trans g7) Bool.false_ne_true), hr.k1, hr.k4, hr.k5, hr.k6, hr.k7, (fun _ => ⟨g7, trivial⟩), hr.f0, hr.f1, hr.f2, hr.f3, hr.f4, hr.f5, (fun e1 e2 => by obtain ⟨g3, q1, q2, q3⟩ := hr.f6 e1 hlG; exact ⟨g3, q1, q2, (own_turn q3 htA (by have := HBW.out; omega))⟩), hr.f7, (fun _ _ => ⟨w'.heap.size, y, rfl, ht.size, trivial, Bk.new w' _ _ _ rfl⟩), hr.f10⟩⟩ (if_pos rfl) (fun j hj => if_neg hj)
      · revert hK
        obtain rfl := Option.some.inj ho
        have g1 : ℓ 1 = true := hdep { on := 1, ground := Ground.data } (by simp) rfl
        have g8 : ℓ 8 = true := hdep { on := 8, ground := Ground.data } (by simp) rfl
        clear hdep ho
        have hlL : ℓ 11 = false := by
          cases h7 : ℓ 11
          · rfl
          · have := (hr.cl h7).2.2.2.2.2.2.2.2.2.1; rw [this] at hL; cases hL
        have hlG := hL
        have hc := hr.cu hlG
        have ht := hr.tu hlG
        obtain rfl := hr.f1 g1
        obtain ⟨g, y, rfl, hgg, hpr, hgo⟩ := hr.f8 g8 hlG
        intro hK
        rw [if_pos (by rfl)]
        try simp only [Act.put, List.setIfInBounds_toArray, List.set_cons_zero, List.set_cons_succ]
        have hLw : lo ≤ w'.heap.size := by have := HLV.out; have := (HAN.out.turn HAB.out hc ht).rv.lt; omega
        have hown := (HAN.out.turn HAB.out hc ht).o.pd
        refine wp_append_lies w' (.tmp 138) (.tmp 145) 29 rfl lo 3 iE (.int .i64 0) 1 8 Tryz.underlying29 HIE.out.1 HIE.out.2.1 HIE.out.2.2.1 HIE.out.2.2.2 rfl (by omega) (.slice ad.da ad.dn ad.dc) ad.dn (flr ad.dn (inX t.ds)) rfl hown ⟨g, 0, none⟩ 1 1 [.int .i64 y] rfl rfl (by simpa using news_of hgo) (by simp [Value.oneCell']) (by omega) (by unfold maxLen; omega) (by omega) hLw _ rfl ?_
        intro gq c9 w9 ho9 hg9 hat9 hlt9
        exact hK.out _ _ (fun j => if j = 9 then true else ℓ j) ⟨x137, (.slice ad.da ad.dn ad.dc), x139, x140, x141, x142, x143, x144, (.slice (some ⟨g, 0, none⟩) 1 1), (.slice (some ⟨gq, 0, none⟩) (ad.dn + 1) c9), x147, (by show Act.put _ (some 146) _ = _; simp only [Act.put, List.setIfInBounds_toArray, List.set_cons_zero, List.set_cons_succ]), ⟨(fun g7 => absurd (hlL.symm.trans g7) Bool.false_ne_true), (fun _ => ⟨(hr.k1 g1).1, g1, (hr.k7 (hr.k8 g8).1).1, (hr.k4 (hr.k5 (hr.k6 (hr.k7 (hr.k8 g8).1).2.1).1).1).1, (hr.k5 (hr.k6 (hr.k7 (hr.k8 g8).1).2.1).1).1, (hr.k6 (hr.k7 (hr.k8 g8).1).2.1).1, (hr.k7 (hr.k8 g8).1).2.1, (hr.k8 g8).1, g8, trivial⟩), (fun g => by cases g), (fun g => by cases g), (fun _ => ⟨gq, c9, y, rfl, hpr, fun _ => ⟨w', hc, ht, trivial, hg9, ho9, hat9⟩⟩), (fun g7 => absurd (hlL.symm.trans g7) Bool.false_ne_true), hr.k1, hr.k4, hr.k5, hr.k6, hr.k7, hr.k8, hr.f0, hr.f1, hr.f2, hr.f3, hr.f4, hr.f5, (fun _ e2 => by cases e2), hr.f7, (fun _ e2 => by cases e2), hr.f10⟩⟩ (if_pos rfl) (fun j hj => if_neg hj)
      · revert hK
        obtain rfl := Option.some.inj ho
        have g0 : ℓ 0 = true := hdep { on := 0, ground := Ground.phase } (by simp) rfl
        have g1 : ℓ 1 = true := hdep { on := 1, ground := Ground.phase } (by simp) rfl
        have g2 : ℓ 2 = true := hdep { on := 2, ground := Ground.phase } (by simp) rfl
        have g3 : ℓ 3 = true := hdep { on := 3, ground := Ground.phase } (by simp) rfl
        have g4 : ℓ 4 = true := hdep { on := 4, ground := Ground.phase } (by simp) rfl
        have g5 : ℓ 5 = true := hdep { on := 5, ground := Ground.phase } (by simp) rfl
        have g6 : ℓ 6 = true := hdep { on := 6, ground := Ground.phase } (by simp) rfl
        have g7 : ℓ 7 = true := hdep { on := 7, ground := Ground.phase } (by simp) rfl
        have g8 : ℓ 8 = true := hdep { on := 8, ground := Ground.phase } (by simp) rfl
        have g9 : ℓ 9 = true := hdep { on := 9, ground := Ground.phase } (by simp) rfl
        clear hdep ho
        have hlL : ℓ 11 = false := by
          cases h7 : ℓ 11
          · rfl
          · have := (hr.cl h7).2.2.2.2.2.2.2.2.2.2.1; rw [this] at hL; cases hL
        intro hK
        rw [if_pos (by rfl)]
        try simp only [Act.put, List.setIfInBounds_toArray, List.set_cons_zero, List.set_cons_succ]
        go_simp
        exact hK.out _ _ (fun j => if j = 10 then true else ℓ j) ⟨x137, x138, x139, x140, x141, x142, x143, x144, x145, x146, (.pointer (some ⟨VB, 16, none⟩)), (by simp only [Act.put, List.setIfInBounds_toArray, List.set_cons_zero, List.set_cons_succ]), ⟨(fun g7 => absurd (hlL.symm.trans g7) Bool.false_ne_true), hr.cq, hr.cu, hr.tu, hr.aq, (fun g7 => absurd (hlL.symm.trans g7) Bool.false_ne_true), hr.k1, hr.k4, hr.k5, hr.k6, hr.k7, hr.k8, hr.f0, hr.f1, hr.f2, hr.f3, hr.f4, hr.f5, hr.f6, hr.f7, hr.f8, (fun _ => rfl)⟩⟩ (if_pos rfl) (fun j hj => if_neg hj)
      · revert hK
        obtain rfl := Option.some.inj ho
        have g10 : ℓ 10 = true := hdep { on := 10, ground := Ground.data } (by simp) rfl
        have g9 : ℓ 9 = true := hdep { on := 9, ground := Ground.data } (by simp) rfl
        have g0 : ℓ 0 = true := hdep { on := 0, ground := Ground.phase } (by simp) rfl
        have g1 : ℓ 1 = true := hdep { on := 1, ground := Ground.phase } (by simp) rfl
        have g2 : ℓ 2 = true := hdep { on := 2, ground := Ground.phase } (by simp) rfl
        have g3 : ℓ 3 = true := hdep { on := 3, ground := Ground.phase } (by simp) rfl
        have g4 : ℓ 4 = true := hdep { on := 4, ground := Ground.phase } (by simp) rfl
        have g5 : ℓ 5 = true := hdep { on := 5, ground := Ground.phase } (by simp) rfl
        have g6 : ℓ 6 = true := hdep { on := 6, ground := Ground.phase } (by simp) rfl
        have g7 : ℓ 7 = true := hdep { on := 7, ground := Ground.phase } (by simp) rfl
        have g8 : ℓ 8 = true := hdep { on := 8, ground := Ground.phase } (by simp) rfl
        clear hdep ho
        obtain rfl := hr.f10 g10
        obtain ⟨g, c9, y, rfl, hpr, haq⟩ := hr.aq g9
        intro hK
        rw [if_pos (by rfl)]
        try simp only [Act.put, List.setIfInBounds_toArray, List.set_cons_zero, List.set_cons_succ]
        obtain ⟨V9, hcV, htV, _, hg9, ho9, hat9⟩ := haq hL
        have cc := (show w'.cell? ⟨VB, 16, none⟩ = some (.slice ad.da ad.dn ad.dc) from (RV.grown9 (HAN.out.turn HAB.out hcV htV).rv hg9 (fun e => HAB.out.n VB (.inr (.inl e)) rfl)).cell 16 rfl)
        have cf := (RV.grown9 (HAN.out.turn HAB.out hcV htV).rv hg9 (fun e => HAB.out.n VB (.inr (.inl e)) rfl)).free 16
        go_simp
        exact hK.out _ _ (fun j => if j = 11 then true else ℓ j) ⟨x137, x138, x139, x140, x141, x142, x143, x144, x145, (.slice (some ⟨g, 0, none⟩) (ad.dn + 1) c9), (.pointer (some ⟨VB, 16, none⟩)), (by simp only [Act.put, List.setIfInBounds_toArray, List.set_cons_zero, List.set_cons_succ]), ⟨(fun _ => ⟨g0, g1, g2, g3, g4, g5, g6, g7, g8, g9, g10, trivial⟩), hr.cq, (fun e => absurd (e.symm.trans g9) Bool.false_ne_true), (fun e => absurd (e.symm.trans g9) Bool.false_ne_true), (fun _ => ⟨g, c9, y, rfl, hpr, fun e => by cases e⟩), (fun _ => ⟨g, c9, y, V9, w', rfl, hpr, hcV, htV, trivial, hg9, ho9, hat9, rfl⟩), hr.k1, hr.k4, hr.k5, hr.k6, hr.k7, hr.k8, hr.f0, hr.f1, hr.f2, hr.f3, hr.f4, hr.f5, (fun _ e2 => absurd (e2.symm.trans g9) Bool.false_ne_true), hr.f7, (fun _ e2 => absurd (e2.symm.trans g9) Bool.false_ne_true), hr.f10⟩⟩ (if_pos rfl) (fun j hj => if_neg hj)
    · rintro a' w' ℓ ℓ' hℓ hI
      rw [← show ℓ = ℓ' from funext hℓ]
      exact hI
  · clear hx0 hx1
    obtain ⟨iE, hiE⟩ := chan_info'
    have HIE : Hid (Tryz.prog.info? 76 = some iE ∧ iE.zero = some (.agg #[.int .i64 0, .int .i64 0, .int .i64 0, .int .i64 0]) ∧ iE.size = 4 ∧ iE.bytes = 32) := hiE
    clear hiE
    have hfew : ad.cn ≤ 100 := by have := HDT.out.c.1; have := HAN.out.w.cl; omega
    have HCU0 : Hid (Cur w4 B a zs cap) := HAN.out.ct.cur
    have HBW : Hid (B < w4.heap.size) := HAN.out.ct.cur.lt
    go_wp2
    refine wp_region_inv (by kernel_rfl) (by kernel_rfl) (fun AC ℓ a' w' => ∃ (x150 x151 x152 x153 x154 x155 x156 x157 x158 x159 x160 x161 : Value), a' = ((((((((((((AC.put (some 150) x150).put (some 151) x151).put (some 152) x152).put (some 153) x153).put (some 154) x154).put (some 155) x155).put (some 156) x156).put (some 157) x157).put (some 158) x158).put (some 159) x159).put (some 160) x160).put (some 161) x161) ∧ D13 (w4) B a zs cap (⟨VB, 17, none⟩) (.slice ad.ca ad.cn ad.cc) (ad.cn) lo (flr ad.cn (chX t.cs)) (fun _ => True) VB t ad w' (ℓ 0) (ℓ 1) (ℓ 2) (ℓ 3) (ℓ 4) (ℓ 5) (ℓ 6) (ℓ 7) (ℓ 8) (ℓ 9) (ℓ 10) (ℓ 11) (ℓ 12) x150 x151 x152 x153 x154 x155 x156 x157 x158 x159 x160 x161) ?_ ?_ ?_ ?_
    · exact ⟨undef, undef, undef, undef, undef, undef, undef, undef, undef, undef, undef, undef, (by simp only [Act.put, List.setIfInBounds_toArray, List.set_cons_zero, List.set_cons_succ]), ⟨(fun g => by cases g), (fun g => by cases g), (fun _ => HCU0.out.drewN 1), (fun _ => (Turn.refl _ _).drewN 1), (fun g => by cases g), (fun g => by cases g), (fun g => by cases g), (fun g => by cases g), (fun g => by cases g), (fun g => by cases g), (fun g => by cases g), (fun g => by cases g), (fun g => by cases g), (fun g => by cases g), (fun g => by cases g), (fun g => by cases g), (fun g => by cases g), (fun g => by cases g), (fun g => by cases g), (fun g => by cases g), (fun g => by cases g), (fun g => by cases g), (fun g => by cases g), (fun g => by cases g)⟩⟩
    · intro ℓ a' w' hI hall
      obtain ⟨x150, x151, x152, x153, x154, x155, x156, x157, x158, x159, x160, x161, rfl, hr⟩ := hI
      have hall' : ∀ i, i < 13 → ℓ i = true := hall
      obtain ⟨g9, c9, y9, V, W1, rfl, hy9, hcV, htV, _, hg9, ho9, hat9, rfl⟩ := hr.la (hall' 12 (by decide))
      obtain rfl := hr.f0 (hall' 0 (by decide))
      obtain rfl := hr.f1 (hall' 1 (by decide))
      obtain rfl := hr.f2 (hall' 2 (by decide))
      obtain rfl := hr.f3 (hall' 3 (by decide))
      obtain rfl := hr.f4 (hall' 4 (by decide))
      obtain rfl := hr.f5 (hall' 5 (by decide))
      obtain ⟨yy7, rfl, hyy7⟩ := hr.f7 (hall' 7 (by decide))
      obtain ⟨yf8, ef8, rfl⟩ := hr.f8 (hall' 8 (by decide))
      cases ef8
      obtain rfl := hr.f11 (hall' 11 (by decide))
      clear hr hall hall'
      simp only [Act.put, List.setIfInBounds_toArray, List.set_cons_zero, List.set_cons_succ]
      have HA6 : Hid (AN w V B a zs cap VB lo t ad) := HAN.out.turn HAB.out hcV htV
      have HA7 : Hid (AN w (W1.setCell ⟨VB, 17, none⟩ (.slice (some ⟨g9, 0, none⟩) (ad.cn + 1) c9)) B a zs cap VB lo { t with cs := t.cs ++ [(1, 0, y9, 1)] } { ad with ca := some ⟨g9, 0, none⟩, cn := ad.cn + 1, cc := c9 }) := AN.appc HA6.out HAB.out (by have := HLV.out; have := HA6.out.rv.lt; omega) hfew ho9 hg9 hat9
      have HBE : Hid _ := HA7.out.fin HAB.out.b HAB.out.l
      have HBR : Hid _ := HA7.out.rv
      have HB0 : Hid _ := HA7.out.r0
      have HBX : Hid (DA w (World.setRow (W1.setCell ⟨VB, 17, none⟩ (.slice (some ⟨g9, 0, none⟩) (ad.cn + 1) c9)) w.heap.size (tbA { t with cs := t.cs ++ [(1, 0, y9, 1)] } { ad with ca := some ⟨g9, 0, none⟩, cn := ad.cn + 1, cc := c9 })) B a zs cap { t with cs := t.cs ++ [(1, 0, y9, 1)] } { ad with ca := some ⟨g9, 0, none⟩, cn := ad.cn + 1, cc := c9 }) := ⟨HBE.out.2.1, HA7.out.w, HA7.out.s, HA7.out.c1, HA7.out.c2, HA7.out.p2, HBE.out.2.2.1, HBE.out.2.2.2⟩
      go_wp2_with (first | (refine wpList_load_row rfl 33 (.tmp 3) rfl VB rfl 33 (tbA { t with cs := t.cs ++ [(1, 0, y9, 1)] } { ad with ca := some ⟨g9, 0, none⟩, cn := ad.cn + 1, cc := c9 }) (0, 0) _ HBR.out Tryz.underlying33 rfl (by kernel_rfl) ?_) | (refine wpList_store_row rfl 33 (.tmp 2) (.tmp 213) rfl w.heap.size (tbA { t with cs := t.cs ++ [(1, 0, y9, 1)] } { ad with ca := some ⟨g9, 0, none⟩, cn := ad.cn + 1, cc := c9 }) rfl rfl 33 (#[.int .i64 0, .int .i64 0, .int .i64 0, .int .i64 0, .int .i64 0, .int .i64 0, .int .i64 0, .int .i64 0, .int .i64 0, .int .i64 0, .int .i64 0, .int .i64 0, .int .i64 0, .int .i64 0, .int .i64 0, .slice none 0 0, .slice none 0 0, .slice none 0 0, .slice none 0 0]) HB0.out (by kernel_rfl) rfl (by simp [Value.oneCell']) ?_) | fail)
      refine bodyPost_ret (v := tbV { t with cs := t.cs ++ [(1, 0, y9, 1)] } { ad with ca := some ⟨g9, 0, none⟩, cn := ad.cn + 1, cc := c9 }) (res_any HBE.out.1 rfl rfl) rfl ⟨{ t with cs := t.cs ++ [(1, 0, y9, 1)] }, { ad with ca := some ⟨g9, 0, none⟩, cn := ad.cn + 1, cc := c9 }, rfl, HBX.out⟩
    · intro ℓ a' w' i o hI ho hi hL hdep K hK
      obtain ⟨x150, x151, x152, x153, x154, x155, x156, x157, x158, x159, x160, x161, rfl, hr⟩ := hI
      have hi7 : i < 13 := hi
      have hcs : i = 0 ∨ i = 1 ∨ i = 2 ∨ i = 3 ∨ i = 4 ∨ i = 5 ∨ i = 6 ∨ i = 7 ∨ i = 8 ∨ i = 9 ∨ i = 10 ∨ i = 11 ∨ i = 12 := by omega
      clear hi hi7
      rcases hcs with rfl | rfl | rfl | rfl | rfl | rfl | rfl | rfl | rfl | rfl | rfl | rfl | rfl
      · revert hK
        obtain rfl := Option.some.inj ho
        clear hdep ho
        have hlL : ℓ 12 = false := by
          cases h7 : ℓ 12
          · rfl
          · have := (hr.cl h7).1; rw [this] at hL; cases hL
        have hlG : ℓ 10 = false := by
          cases h7 : ℓ 10
          · rfl
          · have := (hr.cq h7).1; rw [this] at hL; cases hL
        have hc := hr.cu hlG
        have ht := hr.tu hlG
        intro hK
        rw [if_pos (by rfl)]
        try simp only [Act.put, List.setIfInBounds_toArray, List.set_cons_zero, List.set_cons_succ]
        go_simp
        exact hK.out _ _ (fun j => if j = 0 then true else ℓ j) ⟨(.pointer (some ⟨VB, 17, none⟩)), x151, x152, x153, x154, x155, x156, x157, x158, x159, x160, x161, (by simp only [Act.put, List.setIfInBounds_toArray, List.set_cons_zero, List.set_cons_succ]), ⟨(fun g7 => absurd (hlL.symm.trans g7) Bool.false_ne_true), (fun g7 => absurd (hlG.symm.trans g7) Bool.false_ne_true), hr.cu, hr.tu, (fun g7 => absurd (hlG.symm.trans g7) Bool.false_ne_true), (fun g7 => absurd (hlL.symm.trans g7) Bool.false_ne_true), (fun g7 => ⟨rfl, trivial⟩), hr.k4, hr.k5, hr.k6, hr.k7, hr.k8, hr.k9, (fun _ => rfl), hr.f1, hr.f2, hr.f3, hr.f4, hr.f5, hr.f6, hr.f7, hr.f8, hr.f9, hr.f11⟩⟩ (if_pos rfl) (fun j hj => if_neg hj)
      · revert hK
        obtain rfl := Option.some.inj ho
        have g0 : ℓ 0 = true := hdep { on := 0, ground := Ground.data } (by simp) rfl
        clear hdep ho
        have hlL : ℓ 12 = false := by
          cases h7 : ℓ 12
          · rfl
          · have := (hr.cl h7).2.1; rw [this] at hL; cases hL
        have hlG : ℓ 10 = false := by
          cases h7 : ℓ 10
          · rfl
          · have := (hr.cq h7).2.1; rw [this] at hL; cases hL
        have hc := hr.cu hlG
        have ht := hr.tu hlG
        obtain rfl := hr.f0 g0
        intro hK
        rw [if_pos (by rfl)]
        try simp only [Act.put, List.setIfInBounds_toArray, List.set_cons_zero, List.set_cons_succ]
        have cc := (show w'.cell? ⟨VB, 17, none⟩ = some (.slice ad.ca ad.cn ad.cc) from (HAN.out.turn HAB.out hc ht).rv.cell 17 rfl)
        go_simp
        exact hK.out _ _ (fun j => if j = 1 then true else ℓ j) ⟨(.pointer (some ⟨VB, 17, none⟩)), (.slice ad.ca ad.cn ad.cc), x152, x153, x154, x155, x156, x157, x158, x159, x160, x161, (by simp only [Act.put, List.setIfInBounds_toArray, List.set_cons_zero, List.set_cons_succ]), ⟨(fun g7 => absurd (hlL.symm.trans g7) Bool.false_ne_true), (fun g7 => absurd (hlG.symm.trans g7) Bool.false_ne_true), hr.cu, hr.tu, (fun g7 => absurd (hlG.symm.trans g7) Bool.false_ne_true), (fun g7 => absurd (hlL.symm.trans g7) Bool.false_ne_true), (fun _ => ⟨g0, trivial⟩), hr.k4, hr.k5, hr.k6, hr.k7, hr.k8, hr.k9, hr.f0, (fun _ => rfl), hr.f2, hr.f3, hr.f4, hr.f5, hr.f6, hr.f7, hr.f8, hr.f9, hr.f11⟩⟩ (if_pos rfl) (fun j hj => if_neg hj)
      · revert hK
        obtain rfl := Option.some.inj ho
        clear hdep ho
        have hlL : ℓ 12 = false := by
          cases h7 : ℓ 12
          · rfl
          · have := (hr.cl h7).2.2.1; rw [this] at hL; cases hL
        have hlG : ℓ 10 = false := by
          cases h7 : ℓ 10
          · rfl
          · have := (hr.cq h7).2.2.1; rw [this] at hL; cases hL
        have hc := hr.cu hlG
        have ht := hr.tu hlG
        intro hK
        rw [if_pos (by rfl)]
        try simp only [Act.put, List.setIfInBounds_toArray, List.set_cons_zero, List.set_cons_succ]
        go_simp
        exact hK.out _ _ (fun j => if j = 2 then true else ℓ j) ⟨x150, x151, (.pointer (some ⟨B, 0, none⟩)), x153, x154, x155, x156, x157, x158, x159, x160, x161, (by simp only [Act.put, List.setIfInBounds_toArray, List.set_cons_zero, List.set_cons_succ]), ⟨(fun g7 => absurd (hlL.symm.trans g7) Bool.false_ne_true), (fun g7 => absurd (hlG.symm.trans g7) Bool.false_ne_true), hr.cu, hr.tu, (fun g7 => absurd (hlG.symm.trans g7) Bool.false_ne_true), (fun g7 => absurd (hlL.symm.trans g7) Bool.false_ne_true), hr.k1, hr.k4, hr.k5, hr.k6, (fun g7 => ⟨rfl, (hr.k7 g7).2.1, trivial⟩), hr.k8, hr.k9, hr.f0, hr.f1, (fun _ => rfl), hr.f3, hr.f4, hr.f5, hr.f6, hr.f7, hr.f8, hr.f9, hr.f11⟩⟩ (if_pos rfl) (fun j hj => if_neg hj)
      · revert hK
        obtain rfl := Option.some.inj ho
        clear hdep ho
        have hlL : ℓ 12 = false := by
          cases h7 : ℓ 12
          · rfl
          · have := (hr.cl h7).2.2.2.1; rw [this] at hL; cases hL
        have hlG : ℓ 10 = false := by
          cases h7 : ℓ 10
          · rfl
          · have := (hr.cq h7).2.2.2.1; rw [this] at hL; cases hL
        have hc := hr.cu hlG
        have ht := hr.tu hlG
        intro hK
        rw [if_pos (by rfl)]
        try simp only [Act.put, List.setIfInBounds_toArray, List.set_cons_zero, List.set_cons_succ]
        go_simp
        exact hK.out _ _ (fun j => if j = 3 then true else ℓ j) ⟨x150, x151, x152, (.pointer (some ⟨VB, 15, none⟩)), x154, x155, x156, x157, x158, x159, x160, x161, (by simp only [Act.put, List.setIfInBounds_toArray, List.set_cons_zero, List.set_cons_succ]), ⟨(fun g7 => absurd (hlL.symm.trans g7) Bool.false_ne_true), (fun g7 => absurd (hlG.symm.trans g7) Bool.false_ne_true), hr.cu, hr.tu, (fun g7 => absurd (hlG.symm.trans g7) Bool.false_ne_true), (fun g7 => absurd (hlL.symm.trans g7) Bool.false_ne_true), hr.k1, (fun g7 => ⟨rfl, trivial⟩), hr.k5, hr.k6, hr.k7, hr.k8, hr.k9, hr.f0, hr.f1, hr.f2, (fun _ => rfl), hr.f4, hr.f5, hr.f6, hr.f7, hr.f8, hr.f9, hr.f11⟩⟩ (if_pos rfl) (fun j hj => if_neg hj)
      · revert hK
        obtain rfl := Option.some.inj ho
        have g3 : ℓ 3 = true := hdep { on := 3, ground := Ground.data } (by simp) rfl
        clear hdep ho
        have hlL : ℓ 12 = false := by
          cases h7 : ℓ 12
          · rfl
          · have := (hr.cl h7).2.2.2.2.1; rw [this] at hL; cases hL
        have hlG : ℓ 10 = false := by
          cases h7 : ℓ 10
          · rfl
          · have := (hr.cq h7).2.2.2.2.1; rw [this] at hL; cases hL
        have hc := hr.cu hlG
        have ht := hr.tu hlG
        obtain rfl := hr.f3 g3
        intro hK
        rw [if_pos (by rfl)]
        try simp only [Act.put, List.setIfInBounds_toArray, List.set_cons_zero, List.set_cons_succ]
        have cc := (show w'.cell? ⟨VB, 15, none⟩ = some (.slice ad.pa ad.pn ad.pc) from (HAN.out.turn HAB.out hc ht).rv.cell 15 rfl)
        go_simp
        exact hK.out _ _ (fun j => if j = 4 then true else ℓ j) ⟨x150, x151, x152, (.pointer (some ⟨VB, 15, none⟩)), (.slice ad.pa ad.pn ad.pc), x155, x156, x157, x158, x159, x160, x161, (by simp only [Act.put, List.setIfInBounds_toArray, List.set_cons_zero, List.set_cons_succ]), ⟨(fun g7 => absurd (hlL.symm.trans g7) Bool.false_ne_true), (fun g7 => absurd (hlG.symm.trans g7) Bool.false_ne_true), hr.cu, hr.tu, (fun g7 => absurd (hlG.symm.trans g7) Bool.false_ne_true), (fun g7 => absurd (hlL.symm.trans g7) Bool.false_ne_true), hr.k1, (fun _ => ⟨g3, trivial⟩), (fun g7 => ⟨rfl, trivial⟩), hr.k6, hr.k7, hr.k8, hr.k9, hr.f0, hr.f1, hr.f2, hr.f3, (fun _ => rfl), hr.f5, hr.f6, hr.f7, hr.f8, hr.f9, hr.f11⟩⟩ (if_pos rfl) (fun j hj => if_neg hj)
      · revert hK
        obtain rfl := Option.some.inj ho
        have g4 : ℓ 4 = true := hdep { on := 4, ground := Ground.data } (by simp) rfl
        clear hdep ho
        have hlL : ℓ 12 = false := by
          cases h7 : ℓ 12
          · rfl
          · have := (hr.cl h7).2.2.2.2.2.1; rw [this] at hL; cases hL
        have hlG : ℓ 10 = false := by
          cases h7 : ℓ 10
          · rfl
          · have := (hr.cq h7).2.2.2.2.2.1; rw [this] at hL; cases hL
        have hc := hr.cu hlG
        have ht := hr.tu hlG
        obtain rfl := hr.f4 g4
        intro hK
        rw [if_pos (by rfl)]
        try simp only [Act.put, List.setIfInBounds_toArray, List.set_cons_zero, List.set_cons_succ]
        go_simp
        exact hK.out _ _ (fun j => if j = 5 then true else ℓ j) ⟨x150, x151, x152, x153, (.slice ad.pa ad.pn ad.pc), (.int .i64 (ad.pn : Int)), x156, x157, x158, x159, x160, x161, (by simp only [Act.put, List.setIfInBounds_toArray, List.set_cons_zero, List.set_cons_succ]), ⟨(fun g7 => absurd (hlL.symm.trans g7) Bool.false_ne_true), (fun g7 => absurd (hlG.symm.trans g7) Bool.false_ne_true), hr.cu, hr.tu, (fun g7 => absurd (hlG.symm.trans g7) Bool.false_ne_true), (fun g7 => absurd (hlL.symm.trans g7) Bool.false_ne_true), hr.k1, hr.k4, (fun _ => ⟨g4, trivial⟩), (fun g7 => ⟨rfl, trivial⟩), hr.k7, hr.k8, hr.k9, hr.f0, hr.f1, hr.f2, hr.f3, hr.f4, (fun _ => rfl), hr.f6, hr.f7, hr.f8, hr.f9, hr.f11⟩⟩ (if_pos rfl) (fun j hj => if_neg hj)
      · revert hK
        obtain rfl := Option.some.inj ho
        have g5 : ℓ 5 = true := hdep { on := 5, ground := Ground.data } (by simp) rfl
        clear hdep ho
        have hlL : ℓ 12 = false := by
          cases h7 : ℓ 12
          · rfl
          · have := (hr.cl h7).2.2.2.2.2.2.1; rw [this] at hL; cases hL
        have hlG : ℓ 10 = false := by
          cases h7 : ℓ 10
          · rfl
          · have := (hr.cq h7).2.2.2.2.2.2.1; rw [this] at hL; cases hL
        have hc := hr.cu hlG
        have ht := hr.tu hlG
        obtain rfl := hr.f5 g5
        intro hK
        rw [if_pos (by rfl)]
        try simp only [Act.put, List.setIfInBounds_toArray, List.set_cons_zero, List.set_cons_succ]
        have hbA : Below w'.heap.size w' (w'.alloc (.cells #[.int .i64 0, .int .i64 (ad.pn : Int), .int .i64 1] 3)) := (Below.refl _ _).alloc (Nat.le_refl _) _
        have htA := Turn.of_below (B := B) hbA
        go_simp
        exact hK.out _ _ (fun j => if j = 6 then true else ℓ j) ⟨x150, x151, x152, x153, x154, (.int .i64 (ad.pn : Int)), (.slice (some ⟨w'.heap.size, 0, none⟩) 3 3), x157, x158, x159, x160, x161, (by simp only [Act.put, List.setIfInBounds_toArray, List.set_cons_zero, List.set_cons_succ]), ⟨(fun g7 => absurd (hlL.symm.trans g7) Bool.false_ne_true), (fun g7 => absurd (hlG.symm.trans g7) Bool.false_ne_true), (fun _ => hc.below hbA), (fun _ => ht.trans htA), (fun g7 => absurd (hlG.symm.trans g7) Bool.false_ne_true), (fun g7 => absurd (hlL.symm.trans g7) Bool.false_ne_true), hr.k1, hr.k4, hr.k5, (fun _ => ⟨g5, trivial⟩), (fun g7 => ⟨(hr.k7 g7).1, rfl, trivial⟩), hr.k8, hr.k9, hr.f0, hr.f1, hr.f2, hr.f3, hr.f4, hr.f5, (fun _ _ => ⟨w'.heap.size, rfl, ht.size, own_litD .i64 w' 3 [0, (ad.pn : Int), 1]⟩), hr.f7, hr.f8, (fun e1 e2 => by obtain ⟨g3, y3, q1, q2, q4, q3⟩ := hr.f9 e1 hlG; exact ⟨g3, y3, q1, q2, q4, (q3.turn htA (by have := HBW.out; omega))⟩), hr.f11⟩⟩ (if_pos rfl) (fun j hj => if_neg hj)
      · revert hK
        obtain rfl := Option.some.inj ho
        have g2 : ℓ 2 = true := hdep { on := 2, ground := Ground.data } (by simp) rfl
        have g6 : ℓ 6 = true := hdep { on := 6, ground := Ground.data } (by simp) rfl
        clear hdep ho
        have hlL : ℓ 12 = false := by
          cases h7 : ℓ 12
          · rfl
          · have := (hr.cl h7).2.2.2.2.2.2.2.1; rw [this] at hL; cases hL
        have hlG : ℓ 10 = false := by
          cases h7 : ℓ 10
          · rfl
          · have := (hr.cq h7).2.2.2.2.2.2.2.1; rw [this] at hL; cases hL
        have hc := hr.cu hlG
        have ht := hr.tu hlG
        obtain rfl := hr.f2 g2
        obtain ⟨g, rfl, hgg, hgo⟩ := hr.f6 g6 hlG
        intro hK
        rw [if_pos (by rfl)]
        try simp only [Act.put, List.setIfInBounds_toArray, List.set_cons_zero, List.set_cons_succ]
        go_simp
        refine (draw_pick w' B g a zs cap [0, (ad.pn : Int), 1] hc hgo (by have := HBW.out; omega) (by simp) (by simp)).mono ?_
        rintro e w9 ⟨y, rfl, hyy, hc9, ht9⟩
        exact hK.out _ _ (fun j => if j = 7 then true else ℓ j) ⟨x150, x151, (.pointer (some ⟨B, 0, none⟩)), x153, x154, x155, (.slice (some ⟨g, 0, none⟩) 3 3), (.int .i64 y), x158, x159, x160, x161, (by simp only [Act.put, List.setIfInBounds_toArray, List.set_cons_zero, List.set_cons_succ]), ⟨(fun g7 => absurd (hlL.symm.trans g7) Bool.false_ne_true), (fun g7 => absurd (hlG.symm.trans g7) Bool.false_ne_true), (fun _ => hc9), (fun _ => ht.trans ht9), (fun g7 => absurd (hlG.symm.trans g7) Bool.false_ne_true), (fun g7 => absurd (hlL.symm.trans g7) Bool.false_ne_true), hr.k1, hr.k4, hr.k5, hr.k6, (fun _ => ⟨g2, g6, trivial⟩), (fun g7 => ⟨rfl, trivial⟩), hr.k9, hr.f0, hr.f1, hr.f2, hr.f3, hr.f4, hr.f5, (fun e1 e2 => by obtain ⟨g3, q1, q2, q3⟩ := hr.f6 e1 hlG; exact ⟨g3, q1, q2, (own_turn q3 ht9 (by have := HBW.out; omega))⟩), (fun _ => ⟨y, rfl, hyy⟩), (fun g7 => absurd (hL.symm.trans (hr.k8 g7).1) Bool.false_ne_true), (fun e1 e2 => by obtain ⟨g3, y3, q1, q2, q4, q3⟩ := hr.f9 e1 hlG; exact ⟨g3, y3, q1, q2, q4, (q3.turn ht9 (by have := HBW.out; omega))⟩), hr.f11⟩⟩ (if_pos rfl) (fun j hj => if_neg hj)
      · revert hK
        obtain rfl := Option.some.inj ho
        have g7 : ℓ 7 = true := hdep { on := 7, ground := Ground.data } (by simp) rfl
        clear hdep ho
        have hlL : ℓ 12 = false := by
          cases h7 : ℓ 12
          · rfl
          · have := (hr.cl h7).2.2.2.2.2.2.2.2.1; rw [this] at hL; cases hL
        have hlG : ℓ 10 = false := by
          cases h7 : ℓ 10
          · rfl
          · have := (hr.cq h7).2.2.2.2.2.2.2.2.1; rw [this] at hL; cases hL
        have hc := hr.cu hlG
        have ht := hr.tu hlG
        obtain ⟨y, rfl, hyy⟩ := hr.f7 g7
        intro hK
        rw [if_pos (by rfl)]
        try simp only [Act.put, List.setIfInBounds_toArray, List.set_cons_zero, List.set_cons_succ]
        go_simp
        exact hK.out _ _ (fun j => if j = 8 then true else ℓ j) ⟨x150, x151, x152, x153, x154, x155, x156, (.int .i64 y), (.agg #[.int .i64 1, .int .i64 0, .int .i64 y, .int .i64 1]), x159, x160, x161, (by simp only [Act.put, List.setIfInBounds_toArray, List.set_cons_zero, List.set_cons_succ]), ⟨(fun g7 => absurd (hlL.symm.trans g7) Bool.false_ne_true), (fun g7 => absurd (hlG.symm.trans g7) Bool.false_ne_true), hr.cu, hr.tu, (fun g7 => absurd (hlG.symm.trans g7) Bool.false_ne_true), (fun g7 => absurd (hlL.symm.trans g7) Bool.false_ne_true), hr.k1, hr.k4, hr.k5, hr.k6, hr.k7, (fun _ => ⟨g7, trivial⟩), (fun g7 => ⟨rfl, trivial⟩), hr.f0, hr.f1, hr.f2, hr.f3, hr.f4, hr.f5, hr.f6, hr.f7, (fun _ => ⟨y, rfl, rfl⟩), hr.f9, hr.f11⟩⟩ (if_pos rfl) (fun j hj => if_neg hj)
      · revert hK
        obtain rfl := Option.some.inj ho
        have g8 : ℓ 8 = true := hdep { on := 8, ground := Ground.data } (by simp) rfl
        clear hdep ho
        have hlL : ℓ 12 = false := by
          cases h7 : ℓ 12
          · rfl
          · have := (hr.cl h7).2.2.2.2.2.2.2.2.2.1; rw [this] at hL; cases hL
        have hlG : ℓ 10 = false := by
          cases h7 : ℓ 10
          · rfl
          · have := (hr.cq h7).2.2.2.2.2.2.2.2.2.1; rw [this] at hL; cases hL
        have hc := hr.cu hlG
        have ht := hr.tu hlG
        obtain ⟨y, ey, rfl⟩ := hr.f8 g8
        obtain rfl := ey
        intro hK
        rw [if_pos (by rfl)]
        try simp only [Act.put, List.setIfInBounds_toArray, List.set_cons_zero, List.set_cons_succ]
        have hbA : Below w'.heap.size w' (w'.alloc (.cells #[.int .i64 1, .int .i64 0, .int .i64 y, .int .i64 1] 76)) := (Below.refl _ _).alloc (Nat.le_refl _) _
        have htA := Turn.of_below (B := B) hbA
        go_simp
        exact hK.out _ _ (fun j => if j = 9 then true else ℓ j) ⟨x150, x151, x152, x153, x154, x155, x156, (.int .i64 y), (.agg #[.int .i64 1, .int .i64 0, .int .i64 y, .int .i64 1]), (.slice (some ⟨w'.heap.size, 0, none⟩) 1 1), x160, x161, (by simp only [Act.put, List.setIfInBounds_toArray, List.set_cons_zero, List.set_cons_succ]), ⟨(fun g7 => absurd (hlL.symm.trans g7) Bool.false_ne_true), (fun g7 => absurd (hlG.symm.trans g7) Bool.false_ne_true), (fun _ => hc.below hbA), (fun _ => ht.trans htA), (fun g7 => absurd (hlG.symm.trans g7) Bool.false_ne_true), (fun g7 => absurd (hlL.symm.trans g7) Bool.false_ne_true), hr.k1, hr.k4, hr.k5, hr.k6, hr.k7, hr.k8, (fun _ => ⟨g8, trivial⟩), hr.f0, hr.f1, hr.f2, hr.f3, hr.f4, hr.f5, (fun e1 e2 => by obtain ⟨g3, q1, q2, q3⟩ := hr.f6 e1 hlG; exact ⟨g3, q1, q2, (own_turn q3 htA (by have := HBW.out; omega))⟩), hr.f7, hr.f8, (fun _ _ => ⟨w'.heap.size, y, rfl, ht.size, trivial, Bk.new w' _ _ _ rfl⟩), hr.f11⟩⟩ (if_pos rfl) (fun j hj => if_neg hj)
      · revert hK
        obtain rfl := Option.some.inj ho
        have g1 : ℓ 1 = true := hdep { on := 1, ground := Ground.data } (by simp) rfl
        have g9 : ℓ 9 = true := hdep { on := 9, ground := Ground.data } (by simp) rfl
        clear hdep ho
        have hlL : ℓ 12 = false := by
          cases h7 : ℓ 12
          · rfl
          · have := (hr.cl h7).2.2.2.2.2.2.2.2.2.2.1; rw [this] at hL; cases hL
        have hlG := hL
        have hc := hr.cu hlG
        have ht := hr.tu hlG
        obtain rfl := hr.f1 g1
        obtain ⟨g, y, rfl, hgg, hpr, hgo⟩ := hr.f9 g9 hlG
        intro hK
        rw [if_pos (by rfl)]
        try simp only [Act.put, List.setIfInBounds_toArray, List.set_cons_zero, List.set_cons_succ]
        have hLw : lo ≤ w'.heap.size := by have := HLV.out; have := (HAN.out.turn HAB.out hc ht).rv.lt; omega
        have hown := (HAN.out.turn HAB.out hc ht).o.pc
        refine wp_append_lies w' (.tmp 151) (.tmp 159) 30 rfl lo 76 iE (.agg #[.int .i64 0, .int .i64 0, .int .i64 0, .int .i64 0]) 4 32 Tryz.underlying30 HIE.out.1 HIE.out.2.1 HIE.out.2.2.1 HIE.out.2.2.2 rfl (by omega) (.slice ad.ca ad.cn ad.cc) ad.cn (flr ad.cn (chX t.cs)) rfl hown ⟨g, 0, none⟩ 1 1 [.int .i64 1, .int .i64 0, .int .i64 y, .int .i64 1] rfl rfl (by simpa using news_of hgo) (by simp [Value.oneCell']) (by omega) (by unfold maxLen; omega) (by omega) hLw _ rfl ?_
        intro gq c9 w9 ho9 hg9 hat9 hlt9
        exact hK.out _ _ (fun j => if j = 10 then true else ℓ j) ⟨x150, (.slice ad.ca ad.cn ad.cc), x152, x153, x154, x155, x156, x157, x158, (.slice (some ⟨g, 0, none⟩) 1 1), (.slice (some ⟨gq, 0, none⟩) (ad.cn + 1) c9), x161, (by show Act.put _ (some 160) _ = _; simp only [Act.put, List.setIfInBounds_toArray, List.set_cons_zero, List.set_cons_succ]), ⟨(fun g7 => absurd (hlL.symm.trans g7) Bool.false_ne_true), (fun _ => ⟨(hr.k1 g1).1, g1, (hr.k7 (hr.k8 (hr.k9 g9).1).1).1, (hr.k4 (hr.k5 (hr.k6 (hr.k7 (hr.k8 (hr.k9 g9).1).1).2.1).1).1).1, (hr.k5 (hr.k6 (hr.k7 (hr.k8 (hr.k9 g9).1).1).2.1).1).1, (hr.k6 (hr.k7 (hr.k8 (hr.k9 g9).1).1).2.1).1, (hr.k7 (hr.k8 (hr.k9 g9).1).1).2.1, (hr.k8 (hr.k9 g9).1).1, (hr.k9 g9).1, g9, trivial⟩), (fun g => by cases g), (fun g => by cases g), (fun _ => ⟨gq, c9, y, rfl, hpr, fun _ => ⟨w', hc, ht, trivial, hg9, ho9, hat9⟩⟩), (fun g7 => absurd (hlL.symm.trans g7) Bool.false_ne_true), hr.k1, hr.k4, hr.k5, hr.k6, hr.k7, hr.k8, hr.k9, hr.f0, hr.f1, hr.f2, hr.f3, hr.f4, hr.f5, (fun _ e2 => by cases e2), hr.f7, hr.f8, (fun _ e2 => by cases e2), hr.f11⟩⟩ (if_pos rfl) (fun j hj => if_neg hj)
      · revert hK
        obtain rfl := Option.some.inj ho
        have g0 : ℓ 0 = true := hdep { on := 0, ground := Ground.phase } (by simp) rfl
        have g1 : ℓ 1 = true := hdep { on := 1, ground := Ground.phase } (by simp) rfl
        have g2 : ℓ 2 = true := hdep { on := 2, ground := Ground.phase } (by simp) rfl
        have g3 : ℓ 3 = true := hdep { on := 3, ground := Ground.phase } (by simp) rfl
        have g4 : ℓ 4 = true := hdep { on := 4, ground := Ground.phase } (by simp) rfl
        have g5 : ℓ 5 = true := hdep { on := 5, ground := Ground.phase } (by simp) rfl
        have g6 : ℓ 6 = true := hdep { on := 6, ground := Ground.phase } (by simp) rfl
        have g7 : ℓ 7 = true := hdep { on := 7, ground := Ground.phase } (by simp) rfl
        have g8 : ℓ 8 = true := hdep { on := 8, ground := Ground.phase } (by simp) rfl
        have g9 : ℓ 9 = true := hdep { on := 9, ground := Ground.phase } (by simp) rfl
        have g10 : ℓ 10 = true := hdep { on := 10, ground := Ground.phase } (by simp) rfl
        clear hdep ho
        have hlL : ℓ 12 = false := by
          cases h7 : ℓ 12
          · rfl
          · have := (hr.cl h7).2.2.2.2.2.2.2.2.2.2.2.1; rw [this] at hL; cases hL
        intro hK
        rw [if_pos (by rfl)]
        try simp only [Act.put, List.setIfInBounds_toArray, List.set_cons_zero, List.set_cons_succ]
        go_simp
        exact hK.out _ _ (fun j => if j = 11 then true else ℓ j) ⟨x150, x151, x152, x153, x154, x155, x156, x157, x158, x159, x160, (.pointer (some ⟨VB, 17, none⟩)), (by simp only [Act.put, List.setIfInBounds_toArray, List.set_cons_zero, List.set_cons_succ]), ⟨(fun g7 => absurd (hlL.symm.trans g7) Bool.false_ne_true), hr.cq, hr.cu, hr.tu, hr.aq, (fun g7 => absurd (hlL.symm.trans g7) Bool.false_ne_true), hr.k1, hr.k4, hr.k5, hr.k6, hr.k7, hr.k8, hr.k9, hr.f0, hr.f1, hr.f2, hr.f3, hr.f4, hr.f5, hr.f6, hr.f7, hr.f8, hr.f9, (fun _ => rfl)⟩⟩ (if_pos rfl) (fun j hj => if_neg hj)
      · revert hK
        obtain rfl := Option.some.inj ho
        have g11 : ℓ 11 = true := hdep { on := 11, ground := Ground.data } (by simp) rfl
        have g10 : ℓ 10 = true := hdep { on := 10, ground := Ground.data } (by simp) rfl
        have g0 : ℓ 0 = true := hdep { on := 0, ground := Ground.phase } (by simp) rfl
        have g1 : ℓ 1 = true := hdep { on := 1, ground := Ground.phase } (by simp) rfl
        have g2 : ℓ 2 = true := hdep { on := 2, ground := Ground.phase } (by simp) rfl
        have g3 : ℓ 3 = true := hdep { on := 3, ground := Ground.phase } (by simp) rfl
        have g4 : ℓ 4 = true := hdep { on := 4, ground := Ground.phase } (by simp) rfl
        have g5 : ℓ 5 = true := hdep { on := 5, ground := Ground.phase } (by simp) rfl
        have g6 : ℓ 6 = true := hdep { on := 6, ground := Ground.phase } (by simp) rfl
        have g7 : ℓ 7 = true := hdep { on := 7, ground := Ground.phase } (by simp) rfl
        have g8 : ℓ 8 = true := hdep { on := 8, ground := Ground.phase } (by simp) rfl
        have g9 : ℓ 9 = true := hdep { on := 9, ground := Ground.phase } (by simp) rfl
        clear hdep ho
        obtain rfl := hr.f11 g11
        obtain ⟨g, c9, y, rfl, hpr, haq⟩ := hr.aq g10
        intro hK
        rw [if_pos (by rfl)]
        try simp only [Act.put, List.setIfInBounds_toArray, List.set_cons_zero, List.set_cons_succ]
        obtain ⟨V9, hcV, htV, _, hg9, ho9, hat9⟩ := haq hL
        have cc := (show w'.cell? ⟨VB, 17, none⟩ = some (.slice ad.ca ad.cn ad.cc) from (RV.grown9 (HAN.out.turn HAB.out hcV htV).rv hg9 (fun e => HAB.out.n VB (.inr (.inr (.inl e))) rfl)).cell 17 rfl)
        have cf := (RV.grown9 (HAN.out.turn HAB.out hcV htV).rv hg9 (fun e => HAB.out.n VB (.inr (.inr (.inl e))) rfl)).free 17
        go_simp
        exact hK.out _ _ (fun j => if j = 12 then true else ℓ j) ⟨x150, x151, x152, x153, x154, x155, x156, x157, x158, x159, (.slice (some ⟨g, 0, none⟩) (ad.cn + 1) c9), (.pointer (some ⟨VB, 17, none⟩)), (by simp only [Act.put, List.setIfInBounds_toArray, List.set_cons_zero, List.set_cons_succ]), ⟨(fun _ => ⟨g0, g1, g2, g3, g4, g5, g6, g7, g8, g9, g10, g11, trivial⟩), hr.cq, (fun e => absurd (e.symm.trans g10) Bool.false_ne_true), (fun e => absurd (e.symm.trans g10) Bool.false_ne_true), (fun _ => ⟨g, c9, y, rfl, hpr, fun e => by cases e⟩), (fun _ => ⟨g, c9, y, V9, w', rfl, hpr, hcV, htV, trivial, hg9, ho9, hat9, rfl⟩), hr.k1, hr.k4, hr.k5, hr.k6, hr.k7, hr.k8, hr.k9, hr.f0, hr.f1, hr.f2, hr.f3, hr.f4, hr.f5, (fun _ e2 => absurd (e2.symm.trans g10) Bool.false_ne_true), hr.f7, hr.f8, (fun _ e2 => absurd (e2.symm.trans g10) Bool.false_ne_true), hr.f11⟩⟩ (if_pos rfl) (fun j hj => if_neg hj)
    · rintro a' w' ℓ ℓ' hℓ hI
      rw [← show ℓ = ℓ' from funext hℓ]
      exact hI
  · clear hx0 hx1
    have hs0 : 0 < ad.sn := by have := HL.out; omega
    have hsi : (0 : Int) < (ad.sn : Int) := by omega
    have hls : l < ad.sn := by have := HL.out; omega
    have hlsi : (l : Int) < (ad.sn : Int) := by omega
    obtain ⟨g, hsa⟩ := HAN.out.o.sab hs0
    have HSA : Hid (ad.sa = some ⟨g, 0, none⟩) := hsa
    clear hsa
    obtain ⟨s1, HS1⟩ : ∃ v, Hid ((t.ss.getD l sl0).2.1 = v) := ⟨_, rfl⟩
    obtain ⟨s2, HS2⟩ : ∃ v, Hid ((t.ss.getD l sl0).2.2 = v) := ⟨_, rfl⟩
    have HCU0 : Hid (Cur w4 B a zs cap) := HAN.out.ct.cur
    have HBW : Hid (B < w4.heap.size) := HAN.out.ct.cur.lt
    go_wp2
    refine wp_region_inv (by kernel_rfl) (by kernel_rfl) (fun AC ℓ a' w' => ∃ (x164 x165 x166 x167 x168 x169 x170 x171 x172 x173 x174 : Value), a' = (((((((((((AC.put (some 164) x164).put (some 165) x165).put (some 166) x166).put (some 167) x167).put (some 168) x168).put (some 169) x169).put (some 170) x170).put (some 171) x171).put (some 172) x172).put (some 173) x173).put (some 174) x174) ∧ D14 (w4) B a zs cap (⟨g, l * 3, none⟩) VB g l ad s1 s2 w' (ℓ 0) (ℓ 1) (ℓ 2) (ℓ 3) (ℓ 4) (ℓ 5) (ℓ 6) (ℓ 7) (ℓ 8) (ℓ 9) (ℓ 10) (ℓ 11) x164 x165 x166 x167 x168 x169 x170 x171 x172 x173 x174) ?_ ?_ ?_ ?_
    · exact ⟨undef, undef, undef, undef, undef, undef, undef, undef, undef, undef, undef, (by simp only [Act.put, List.setIfInBounds_toArray, List.set_cons_zero, List.set_cons_succ]), ⟨(fun g => by cases g), (fun _ => HCU0.out.drewN 1), (fun _ => (Turn.refl _ _).drewN 1), (fun g => by cases g), (fun g => by cases g), (fun g => by cases g), (fun g => by cases g), (fun g => by cases g), (fun g => by cases g), (fun g => by cases g), (fun g => by cases g), (fun g => by cases g), (fun g => by cases g), (fun g => by cases g), (fun g => by cases g), (fun g => by cases g)⟩⟩
    · intro ℓ a' w' hI hall
      obtain ⟨x164, x165, x166, x167, x168, x169, x170, x171, x172, x173, x174, rfl, hr⟩ := hI
      have hall' : ∀ i, i < 12 → ℓ i = true := hall
      obtain ⟨V, hcV, htV, rfl⟩ := hr.la (hall' 11 (by decide))
      obtain rfl := hr.f0 (hall' 0 (by decide))
      obtain rfl := hr.f1 (hall' 1 (by decide))
      obtain rfl := hr.f2 (hall' 2 (by decide))
      obtain rfl := hr.f3 (hall' 3 (by decide))
      obtain rfl := hr.f4 (hall' 4 (by decide))
      obtain rfl := hr.f5 (hall' 5 (by decide))
      obtain rfl := hr.f6 (hall' 6 (by decide))
      obtain ⟨yy8, rfl, hyy8⟩ := hr.f8 (hall' 8 (by decide))
      obtain rfl := hr.f9 (hall' 9 (by decide))
      obtain rfl := hr.f10 (hall' 10 (by decide))
      clear hr hall hall'
      simp only [Act.put, List.setIfInBounds_toArray, List.set_cons_zero, List.set_cons_succ]
      have HA6 : Hid (AN w V B a zs cap VB lo t ad) := HAN.out.turn HAB.out hcV htV
      obtain ⟨g', e', hfz, hcl, hT9, HA⟩ := HA6.out.sets HAB.out (l) 0 hls (by decide) (.int .i64 yy8) (yy8, (t.ss.getD l sl0).2.1, (t.ss.getD l sl0).2.2) rfl (HA6.out.w.sf l hls)
      rw [HSA.out] at e'
      cases e'
      have HA7 : Hid (AN w (V.setCell ⟨g, l * 3, none⟩ (.int .i64 yy8)) B a zs cap VB lo { t with ss := t.ss.set (l) (yy8, (t.ss.getD l sl0).2.1, (t.ss.getD l sl0).2.2) } ad) := HA
      have c9 : V.cell? ⟨g, l * 3, none⟩ = some (.int .i64 (t.ss.getD l sl0).1) := hcl 0 _ rfl
      have f9 : V.frozen? ⟨g, l * 3, none⟩ = false := hfz _
      clear hfz hcl HA hT9
      have HBE : Hid _ := HA7.out.fin HAB.out.b HAB.out.l
      have HBR : Hid _ := HA7.out.rv
      have HB0 : Hid _ := HA7.out.r0
      have HBX : Hid (DA w (World.setRow (V.setCell ⟨g, l * 3, none⟩ (.int .i64 yy8)) w.heap.size (tbA { t with ss := t.ss.set l (yy8, (t.ss.getD l sl0).2.1, (t.ss.getD l sl0).2.2) } ad)) B a zs cap { t with ss := t.ss.set l (yy8, (t.ss.getD l sl0).2.1, (t.ss.getD l sl0).2.2) } ad) := ⟨HBE.out.2.1, HA7.out.w, HA7.out.s, HA7.out.c1, HA7.out.c2, HA7.out.p2, HBE.out.2.2.1, HBE.out.2.2.2⟩
      go_wp2_with (first | (refine wpList_load_row rfl 33 (.tmp 3) rfl VB rfl 33 (tbA { t with ss := t.ss.set l (yy8, (t.ss.getD l sl0).2.1, (t.ss.getD l sl0).2.2) } ad) (0, 0) _ HBR.out Tryz.underlying33 rfl (by kernel_rfl) ?_) | (refine wpList_store_row rfl 33 (.tmp 2) (.tmp 213) rfl w.heap.size (tbA { t with ss := t.ss.set l (yy8, (t.ss.getD l sl0).2.1, (t.ss.getD l sl0).2.2) } ad) rfl rfl 33 (#[.int .i64 0, .int .i64 0, .int .i64 0, .int .i64 0, .int .i64 0, .int .i64 0, .int .i64 0, .int .i64 0, .int .i64 0, .int .i64 0, .int .i64 0, .int .i64 0, .int .i64 0, .int .i64 0, .int .i64 0, .slice none 0 0, .slice none 0 0, .slice none 0 0, .slice none 0 0]) HB0.out (by kernel_rfl) rfl (by simp [Value.oneCell']) ?_) | fail)
      refine bodyPost_ret (v := tbV { t with ss := t.ss.set l (yy8, (t.ss.getD l sl0).2.1, (t.ss.getD l sl0).2.2) } ad) (res_any HBE.out.1 rfl rfl) rfl ⟨{ t with ss := t.ss.set l (yy8, (t.ss.getD l sl0).2.1, (t.ss.getD l sl0).2.2) }, ad, rfl, HBX.out⟩
    · intro ℓ a' w' i o hI ho hi hL hdep K hK
      obtain ⟨x164, x165, x166, x167, x168, x169, x170, x171, x172, x173, x174, rfl, hr⟩ := hI
      have hi7 : i < 12 := hi
      have hcs : i = 0 ∨ i = 1 ∨ i = 2 ∨ i = 3 ∨ i = 4 ∨ i = 5 ∨ i = 6 ∨ i = 7 ∨ i = 8 ∨ i = 9 ∨ i = 10 ∨ i = 11 := by omega
      clear hi hi7
      rcases hcs with rfl | rfl | rfl | rfl | rfl | rfl | rfl | rfl | rfl | rfl | rfl | rfl
      · revert hK
        obtain rfl := Option.some.inj ho
        clear hdep ho
        have hlL : ℓ 11 = false := by
          cases h7 : ℓ 11
          · rfl
          · have := (hr.cl h7).1; rw [this] at hL; cases hL
        have hlG := hlL
        have hc := hr.cu hlG
        have ht := hr.tu hlG
        intro hK
        rw [if_pos (by rfl)]
        try simp only [Act.put, List.setIfInBounds_toArray, List.set_cons_zero, List.set_cons_succ]
        go_simp
        exact hK.out _ _ (fun j => if j = 0 then true else ℓ j) ⟨(.pointer (some ⟨VB, 18, none⟩)), x165, x166, x167, x168, x169, x170, x171, x172, x173, x174, (by simp only [Act.put, List.setIfInBounds_toArray, List.set_cons_zero, List.set_cons_succ]), ⟨(fun g7 => absurd (hlL.symm.trans g7) Bool.false_ne_true), hr.cu, hr.tu, (fun g7 => absurd (hlL.symm.trans g7) Bool.false_ne_true), hr.k10, (fun _ => rfl), hr.f1, hr.f2, hr.f3, hr.f4, hr.f5, hr.f6, hr.f7, hr.f8, hr.f9, hr.f10⟩⟩ (if_pos rfl) (fun j hj => if_neg hj)
      · revert hK
        obtain rfl := Option.some.inj ho
        have g0 : ℓ 0 = true := hdep { on := 0, ground := Ground.data } (by simp) rfl
        clear hdep ho
        have hlL : ℓ 11 = false := by
          cases h7 : ℓ 11
          · rfl
          · have := (hr.cl h7).2.1; rw [this] at hL; cases hL
        have hlG := hlL
        have hc := hr.cu hlG
        have ht := hr.tu hlG
        obtain rfl := hr.f0 g0
        intro hK
        rw [if_pos (by rfl)]
        try simp only [Act.put, List.setIfInBounds_toArray, List.set_cons_zero, List.set_cons_succ]
        have cc := (show w'.cell? ⟨VB, 18, none⟩ = some (.slice (some ⟨g, 0, none⟩) ad.sn ad.sc) from by rw [← HSA.out]; exact (HAN.out.turn HAB.out hc ht).rv.cell 18 rfl)
        go_simp
        exact hK.out _ _ (fun j => if j = 1 then true else ℓ j) ⟨(.pointer (some ⟨VB, 18, none⟩)), (.slice (some ⟨g, 0, none⟩) ad.sn ad.sc), x166, x167, x168, x169, x170, x171, x172, x173, x174, (by simp only [Act.put, List.setIfInBounds_toArray, List.set_cons_zero, List.set_cons_succ]), ⟨(fun g7 => absurd (hlL.symm.trans g7) Bool.false_ne_true), hr.cu, hr.tu, (fun g7 => absurd (hlL.symm.trans g7) Bool.false_ne_true), hr.k10, hr.f0, (fun _ => rfl), hr.f2, hr.f3, hr.f4, hr.f5, hr.f6, hr.f7, hr.f8, hr.f9, hr.f10⟩⟩ (if_pos rfl) (fun j hj => if_neg hj)
      · revert hK
        obtain rfl := Option.some.inj ho
        clear hdep ho
        have hlL : ℓ 11 = false := by
          cases h7 : ℓ 11
          · rfl
          · have := (hr.cl h7).2.2.1; rw [this] at hL; cases hL
        have hlG := hlL
        have hc := hr.cu hlG
        have ht := hr.tu hlG
        intro hK
        rw [if_pos (by rfl)]
        try simp only [Act.put, List.setIfInBounds_toArray, List.set_cons_zero, List.set_cons_succ]
        go_simp
        exact hK.out _ _ (fun j => if j = 2 then true else ℓ j) ⟨x164, x165, (.int .i64 (l : Int)), x167, x168, x169, x170, x171, x172, x173, x174, (by simp only [Act.put, List.setIfInBounds_toArray, List.set_cons_zero, List.set_cons_succ]), ⟨(fun g7 => absurd (hlL.symm.trans g7) Bool.false_ne_true), hr.cu, hr.tu, (fun g7 => absurd (hlL.symm.trans g7) Bool.false_ne_true), hr.k10, hr.f0, hr.f1, (fun _ => rfl), hr.f3, hr.f4, hr.f5, hr.f6, hr.f7, hr.f8, hr.f9, hr.f10⟩⟩ (if_pos rfl) (fun j hj => if_neg hj)
      · revert hK
        obtain rfl := Option.some.inj ho
        clear hdep ho
        have hlL : ℓ 11 = false := by
          cases h7 : ℓ 11
          · rfl
          · have := (hr.cl h7).2.2.2.1; rw [this] at hL; cases hL
        have hlG := hlL
        have hc := hr.cu hlG
        have ht := hr.tu hlG
        intro hK
        rw [if_pos (by rfl)]
        try simp only [Act.put, List.setIfInBounds_toArray, List.set_cons_zero, List.set_cons_succ]
        go_simp
        exact hK.out _ _ (fun j => if j = 3 then true else ℓ j) ⟨x164, x165, x166, (.pointer (some ⟨B, 0, none⟩)), x168, x169, x170, x171, x172, x173, x174, (by simp only [Act.put, List.setIfInBounds_toArray, List.set_cons_zero, List.set_cons_succ]), ⟨(fun g7 => absurd (hlL.symm.trans g7) Bool.false_ne_true), hr.cu, hr.tu, (fun g7 => absurd (hlL.symm.trans g7) Bool.false_ne_true), hr.k10, hr.f0, hr.f1, hr.f2, (fun _ => rfl), hr.f4, hr.f5, hr.f6, hr.f7, hr.f8, hr.f9, hr.f10⟩⟩ (if_pos rfl) (fun j hj => if_neg hj)
      · revert hK
        obtain rfl := Option.some.inj ho
        clear hdep ho
        have hlL : ℓ 11 = false := by
          cases h7 : ℓ 11
          · rfl
          · have := (hr.cl h7).2.2.2.2.1; rw [this] at hL; cases hL
        have hlG := hlL
        have hc := hr.cu hlG
        have ht := hr.tu hlG
        intro hK
        rw [if_pos (by rfl)]
        try simp only [Act.put, List.setIfInBounds_toArray, List.set_cons_zero, List.set_cons_succ]
        go_simp
        exact hK.out _ _ (fun j => if j = 4 then true else ℓ j) ⟨x164, x165, x166, x167, (.pointer (some ⟨VB, 15, none⟩)), x169, x170, x171, x172, x173, x174, (by simp only [Act.put, List.setIfInBounds_toArray, List.set_cons_zero, List.set_cons_succ]), ⟨(fun g7 => absurd (hlL.symm.trans g7) Bool.false_ne_true), hr.cu, hr.tu, (fun g7 => absurd (hlL.symm.trans g7) Bool.false_ne_true), hr.k10, hr.f0, hr.f1, hr.f2, hr.f3, (fun _ => rfl), hr.f5, hr.f6, hr.f7, hr.f8, hr.f9, hr.f10⟩⟩ (if_pos rfl) (fun j hj => if_neg hj)
      · revert hK
        obtain rfl := Option.some.inj ho
        have g4 : ℓ 4 = true := hdep { on := 4, ground := Ground.data } (by simp) rfl
        clear hdep ho
        have hlL : ℓ 11 = false := by
          cases h7 : ℓ 11
          · rfl
          · have := (hr.cl h7).2.2.2.2.2.1; rw [this] at hL; cases hL
        have hlG := hlL
        have hc := hr.cu hlG
        have ht := hr.tu hlG
        obtain rfl := hr.f4 g4
        intro hK
        rw [if_pos (by rfl)]
        try simp only [Act.put, List.setIfInBounds_toArray, List.set_cons_zero, List.set_cons_succ]
        have cc := (show w'.cell? ⟨VB, 15, none⟩ = some (.slice ad.pa ad.pn ad.pc) from (HAN.out.turn HAB.out hc ht).rv.cell 15 rfl)
        go_simp
        exact hK.out _ _ (fun j => if j = 5 then true else ℓ j) ⟨x164, x165, x166, x167, (.pointer (some ⟨VB, 15, none⟩)), (.slice ad.pa ad.pn ad.pc), x170, x171, x172, x173, x174, (by simp only [Act.put, List.setIfInBounds_toArray, List.set_cons_zero, List.set_cons_succ]), ⟨(fun g7 => absurd (hlL.symm.trans g7) Bool.false_ne_true), hr.cu, hr.tu, (fun g7 => absurd (hlL.symm.trans g7) Bool.false_ne_true), hr.k10, hr.f0, hr.f1, hr.f2, hr.f3, hr.f4, (fun _ => rfl), hr.f6, hr.f7, hr.f8, hr.f9, hr.f10⟩⟩ (if_pos rfl) (fun j hj => if_neg hj)
      · revert hK
        obtain rfl := Option.some.inj ho
        have g5 : ℓ 5 = true := hdep { on := 5, ground := Ground.data } (by simp) rfl
        clear hdep ho
        have hlL : ℓ 11 = false := by
          cases h7 : ℓ 11
          · rfl
          · have := (hr.cl h7).2.2.2.2.2.2.1; rw [this] at hL; cases hL
        have hlG := hlL
        have hc := hr.cu hlG
        have ht := hr.tu hlG
        obtain rfl := hr.f5 g5
        intro hK
        rw [if_pos (by rfl)]
        try simp only [Act.put, List.setIfInBounds_toArray, List.set_cons_zero, List.set_cons_succ]
        go_simp
        exact hK.out _ _ (fun j => if j = 6 then true else ℓ j) ⟨x164, x165, x166, x167, x168, (.slice ad.pa ad.pn ad.pc), (.int .i64 (ad.pn : Int)), x171, x172, x173, x174, (by simp only [Act.put, List.setIfInBounds_toArray, List.set_cons_zero, List.set_cons_succ]), ⟨(fun g7 => absurd (hlL.symm.trans g7) Bool.false_ne_true), hr.cu, hr.tu, (fun g7 => absurd (hlL.symm.trans g7) Bool.false_ne_true), hr.k10, hr.f0, hr.f1, hr.f2, hr.f3, hr.f4, hr.f5, (fun _ => rfl), hr.f7, hr.f8, hr.f9, hr.f10⟩⟩ (if_pos rfl) (fun j hj => if_neg hj)
      · revert hK
        obtain rfl := Option.some.inj ho
        have g6 : ℓ 6 = true := hdep { on := 6, ground := Ground.data } (by simp) rfl
        clear hdep ho
        have hlL : ℓ 11 = false := by
          cases h7 : ℓ 11
          · rfl
          · have := (hr.cl h7).2.2.2.2.2.2.2.1; rw [this] at hL; cases hL
        have hlG := hlL
        have hc := hr.cu hlG
        have ht := hr.tu hlG
        obtain rfl := hr.f6 g6
        intro hK
        rw [if_pos (by rfl)]
        try simp only [Act.put, List.setIfInBounds_toArray, List.set_cons_zero, List.set_cons_succ]
        have hbA : Below w'.heap.size w' (w'.alloc (.cells #[.int .i64 (-1), .int .i64 (ad.pn : Int)] 3)) := (Below.refl _ _).alloc (Nat.le_refl _) _
        have htA := Turn.of_below (B := B) hbA
        go_simp
        exact hK.out _ _ (fun j => if j = 7 then true else ℓ j) ⟨x164, x165, x166, x167, x168, x169, (.int .i64 (ad.pn : Int)), (.slice (some ⟨w'.heap.size, 0, none⟩) 2 2), x172, x173, x174, (by simp only [Act.put, List.setIfInBounds_toArray, List.set_cons_zero, List.set_cons_succ]), ⟨(fun g7 => absurd (hlL.symm.trans g7) Bool.false_ne_true), (fun _ => hc.below hbA), (fun _ => ht.trans htA), (fun g7 => absurd (hlL.symm.trans g7) Bool.false_ne_true), hr.k10, hr.f0, hr.f1, hr.f2, hr.f3, hr.f4, hr.f5, hr.f6, (fun _ _ => ⟨w'.heap.size, rfl, ht.size, own_litD .i64 w' 3 [(-1), (ad.pn : Int)]⟩), hr.f8, hr.f9, hr.f10⟩⟩ (if_pos rfl) (fun j hj => if_neg hj)
      · revert hK
        obtain rfl := Option.some.inj ho
        have g3 : ℓ 3 = true := hdep { on := 3, ground := Ground.data } (by simp) rfl
        have g7 : ℓ 7 = true := hdep { on := 7, ground := Ground.data } (by simp) rfl
        clear hdep ho
        have hlL : ℓ 11 = false := by
          cases h7 : ℓ 11
          · rfl
          · have := (hr.cl h7).2.2.2.2.2.2.2.2.1; rw [this] at hL; cases hL
        have hlG := hlL
        have hc := hr.cu hlG
        have ht := hr.tu hlG
        obtain rfl := hr.f3 g3
        obtain ⟨g, rfl, hgg, hgo⟩ := hr.f7 g7 hlG
        intro hK
        rw [if_pos (by rfl)]
        try simp only [Act.put, List.setIfInBounds_toArray, List.set_cons_zero, List.set_cons_succ]
        go_simp
        refine (draw_pick w' B g a zs cap [(-1), (ad.pn : Int)] hc hgo (by have := HBW.out; omega) (by simp) (by simp)).mono ?_
        rintro e w9 ⟨y, rfl, hyy, hc9, ht9⟩
        exact hK.out _ _ (fun j => if j = 8 then true else ℓ j) ⟨x164, x165, x166, (.pointer (some ⟨B, 0, none⟩)), x168, x169, x170, (.slice (some ⟨g, 0, none⟩) 2 2), (.int .i64 y), x173, x174, (by simp only [Act.put, List.setIfInBounds_toArray, List.set_cons_zero, List.set_cons_succ]), ⟨(fun g7 => absurd (hlL.symm.trans g7) Bool.false_ne_true), (fun _ => hc9), (fun _ => ht.trans ht9), (fun g7 => absurd (hlL.symm.trans g7) Bool.false_ne_true), hr.k10, hr.f0, hr.f1, hr.f2, hr.f3, hr.f4, hr.f5, hr.f6, (fun e1 e2 => by obtain ⟨g3, q1, q2, q3⟩ := hr.f7 e1 hlG; exact ⟨g3, q1, q2, (own_turn q3 ht9 (by have := HBW.out; omega))⟩), (fun _ => ⟨y, rfl, hyy⟩), hr.f9, hr.f10⟩⟩ (if_pos rfl) (fun j hj => if_neg hj)
      · revert hK
        obtain rfl := Option.some.inj ho
        have g1 : ℓ 1 = true := hdep { on := 1, ground := Ground.data } (by simp) rfl
        have g2 : ℓ 2 = true := hdep { on := 2, ground := Ground.data } (by simp) rfl
        have g0 : ℓ 0 = true := hdep { on := 0, ground := Ground.phase } (by simp) rfl
        have g3 : ℓ 3 = true := hdep { on := 3, ground := Ground.phase } (by simp) rfl
        have g4 : ℓ 4 = true := hdep { on := 4, ground := Ground.phase } (by simp) rfl
        have g5 : ℓ 5 = true := hdep { on := 5, ground := Ground.phase } (by simp) rfl
        have g6 : ℓ 6 = true := hdep { on := 6, ground := Ground.phase } (by simp) rfl
        have g7 : ℓ 7 = true := hdep { on := 7, ground := Ground.phase } (by simp) rfl
        have g8 : ℓ 8 = true := hdep { on := 8, ground := Ground.phase } (by simp) rfl
        clear hdep ho
        have hlL : ℓ 11 = false := by
          cases h7 : ℓ 11
          · rfl
          · have := (hr.cl h7).2.2.2.2.2.2.2.2.2.1; rw [this] at hL; cases hL
        have hlG := hlL
        have hc := hr.cu hlG
        have ht := hr.tu hlG
        obtain rfl := hr.f1 g1
        obtain rfl := hr.f2 g2
        intro hK
        rw [if_pos (by rfl)]
        try simp only [Act.put, List.setIfInBounds_toArray, List.set_cons_zero, List.set_cons_succ]
        go_simp
        exact hK.out _ _ (fun j => if j = 9 then true else ℓ j) ⟨x164, (.slice (some ⟨g, 0, none⟩) ad.sn ad.sc), (.int .i64 (l : Int)), x167, x168, x169, x170, x171, x172, (.pointer (some ⟨g, l * 3, none⟩)), x174, (by simp only [Act.put, List.setIfInBounds_toArray, List.set_cons_zero, List.set_cons_succ]), ⟨(fun g7 => absurd (hlL.symm.trans g7) Bool.false_ne_true), hr.cu, hr.tu, (fun g7 => absurd (hlL.symm.trans g7) Bool.false_ne_true), (fun g7 => ⟨rfl, trivial⟩), hr.f0, hr.f1, hr.f2, hr.f3, hr.f4, hr.f5, hr.f6, hr.f7, hr.f8, (fun _ => rfl), hr.f10⟩⟩ (if_pos rfl) (fun j hj => if_neg hj)
      · revert hK
        obtain rfl := Option.some.inj ho
        have g9 : ℓ 9 = true := hdep { on := 9, ground := Ground.data } (by simp) rfl
        have g0 : ℓ 0 = true := hdep { on := 0, ground := Ground.phase } (by simp) rfl
        have g1 : ℓ 1 = true := hdep { on := 1, ground := Ground.phase } (by simp) rfl
        have g2 : ℓ 2 = true := hdep { on := 2, ground := Ground.phase } (by simp) rfl
        have g3 : ℓ 3 = true := hdep { on := 3, ground := Ground.phase } (by simp) rfl
        have g4 : ℓ 4 = true := hdep { on := 4, ground := Ground.phase } (by simp) rfl
        have g5 : ℓ 5 = true := hdep { on := 5, ground := Ground.phase } (by simp) rfl
        have g6 : ℓ 6 = true := hdep { on := 6, ground := Ground.phase } (by simp) rfl
        have g7 : ℓ 7 = true := hdep { on := 7, ground := Ground.phase } (by simp) rfl
        have g8 : ℓ 8 = true := hdep { on := 8, ground := Ground.phase } (by simp) rfl
        clear hdep ho
        have hlL : ℓ 11 = false := by
          cases h7 : ℓ 11
          · rfl
          · have := (hr.cl h7).2.2.2.2.2.2.2.2.2.2.1; rw [this] at hL; cases hL
        have hlG := hlL
        have hc := hr.cu hlG
        have ht := hr.tu hlG
        obtain rfl := hr.f9 g9
        intro hK
        rw [if_pos (by rfl)]
        try simp only [Act.put, List.setIfInBounds_toArray, List.set_cons_zero, List.set_cons_succ]
        go_simp
        exact hK.out _ _ (fun j => if j = 10 then true else ℓ j) ⟨x164, x165, x166, x167, x168, x169, x170, x171, x172, (.pointer (some ⟨g, l * 3, none⟩)), (.pointer (some ⟨g, l * 3, none⟩)), (by simp only [Act.put, List.setIfInBounds_toArray, List.set_cons_zero, List.set_cons_succ]), ⟨(fun g7 => absurd (hlL.symm.trans g7) Bool.false_ne_true), hr.cu, hr.tu, (fun g7 => absurd (hlL.symm.trans g7) Bool.false_ne_true), (fun _ => ⟨g9, trivial⟩), hr.f0, hr.f1, hr.f2, hr.f3, hr.f4, hr.f5, hr.f6, hr.f7, hr.f8, hr.f9, (fun _ => rfl)⟩⟩ (if_pos rfl) (fun j hj => if_neg hj)
      · revert hK
        obtain rfl := Option.some.inj ho
        have g10 : ℓ 10 = true := hdep { on := 10, ground := Ground.data } (by simp) rfl
        have g8 : ℓ 8 = true := hdep { on := 8, ground := Ground.data } (by simp) rfl
        have g0 : ℓ 0 = true := hdep { on := 0, ground := Ground.phase } (by simp) rfl
        have g1 : ℓ 1 = true := hdep { on := 1, ground := Ground.phase } (by simp) rfl
        have g2 : ℓ 2 = true := hdep { on := 2, ground := Ground.phase } (by simp) rfl
        have g3 : ℓ 3 = true := hdep { on := 3, ground := Ground.phase } (by simp) rfl
        have g4 : ℓ 4 = true := hdep { on := 4, ground := Ground.phase } (by simp) rfl
        have g5 : ℓ 5 = true := hdep { on := 5, ground := Ground.phase } (by simp) rfl
        have g6 : ℓ 6 = true := hdep { on := 6, ground := Ground.phase } (by simp) rfl
        have g7 : ℓ 7 = true := hdep { on := 7, ground := Ground.phase } (by simp) rfl
        clear hdep ho
        have hc := hr.cu hL
        have ht := hr.tu hL
        obtain rfl := hr.f10 g10
        obtain ⟨y, rfl, hyy⟩ := hr.f8 g8
        intro hK
        rw [if_pos (by rfl)]
        try simp only [Act.put, List.setIfInBounds_toArray, List.set_cons_zero, List.set_cons_succ]
        have cc := (show w'.cell? ⟨g, l * 3, none⟩ = some (.int .i64 (t.ss.getD l sl0).1) from (HAN.out.turn HAB.out hc ht).o.sat HSA.out l hls 0 (by decide) rfl)
        have cf := (HAN.out.turn HAB.out hc ht).o.sfr HSA.out hs0 (l * 3)
        go_simp
        exact hK.out _ _ (fun j => if j = 11 then true else ℓ j) ⟨x164, x165, x166, x167, x168, x169, x170, x171, (.int .i64 y), x173, (.pointer (some ⟨g, l * 3, none⟩)), (by simp only [Act.put, List.setIfInBounds_toArray, List.set_cons_zero, List.set_cons_succ]), ⟨(fun _ => ⟨g0, g1, g2, g3, g4, g5, g6, g7, g8, (hr.k10 g10).1, g10, trivial⟩), (fun g => by cases g), (fun g => by cases g), (fun _ => ⟨w', hc, ht, rfl⟩), hr.k10, hr.f0, hr.f1, hr.f2, hr.f3, hr.f4, hr.f5, hr.f6, (fun _ e2 => by cases e2), hr.f8, hr.f9, hr.f10⟩⟩ (if_pos rfl) (fun j hj => if_neg hj)
    · rintro a' w' ℓ ℓ' hℓ hI
      rw [← show ℓ = ℓ' from funext hℓ]
      exact hI
  · clear hx0 hx1
    have hs0 : 0 < ad.sn := by have := HL.out; omega
    have hsi : (0 : Int) < (ad.sn : Int) := by omega
    have hls : l < ad.sn := by have := HL.out; omega
    have hlsi : (l : Int) < (ad.sn : Int) := by omega
    obtain ⟨g, hsa⟩ := HAN.out.o.sab hs0
    have HSA : Hid (ad.sa = some ⟨g, 0, none⟩) := hsa
    clear hsa
    obtain ⟨s1, HS1⟩ : ∃ v, Hid ((t.ss.getD l sl0).2.1 = v) := ⟨_, rfl⟩
    obtain ⟨s2, HS2⟩ : ∃ v, Hid ((t.ss.getD l sl0).2.2 = v) := ⟨_, rfl⟩
    have HCU0 : Hid (Cur w4 B a zs cap) := HAN.out.ct.cur
    have HBW : Hid (B < w4.heap.size) := HAN.out.ct.cur.lt
    go_wp2
    refine wp_region_inv (by kernel_rfl) (by kernel_rfl) (fun AC ℓ a' w' => ∃ (x177 x178 x179 x180 x181 x182 x183 x184 x185 x186 x187 x188 : Value), a' = ((((((((((((AC.put (some 177) x177).put (some 178) x178).put (some 179) x179).put (some 180) x180).put (some 181) x181).put (some 182) x182).put (some 183) x183).put (some 184) x184).put (some 185) x185).put (some 186) x186).put (some 187) x187).put (some 188) x188) ∧ D15 (w4) B a zs cap (⟨g, l * 3 + 1, none⟩) VB g l ad s1 s2 w' (ℓ 0) (ℓ 1) (ℓ 2) (ℓ 3) (ℓ 4) (ℓ 5) (ℓ 6) (ℓ 7) (ℓ 8) (ℓ 9) (ℓ 10) (ℓ 11) (ℓ 12) x177 x178 x179 x180 x181 x182 x183 x184 x185 x186 x187 x188) ?_ ?_ ?_ ?_
    · exact ⟨undef, undef, undef, undef, undef, undef, undef, undef, undef, undef, undef, undef, (by simp only [Act.put, List.setIfInBounds_toArray, List.set_cons_zero, List.set_cons_succ]), ⟨(fun g => by cases g), (fun _ => HCU0.out.drewN 1), (fun _ => (Turn.refl _ _).drewN 1), (fun g => by cases g), (fun g => by cases g), (fun g => by cases g), (fun g => by cases g), (fun g => by cases g), (fun g => by cases g), (fun g => by cases g), (fun g => by cases g), (fun g => by cases g), (fun g => by cases g), (fun g => by cases g), (fun g => by cases g), (fun g => by cases g), (fun g => by cases g)⟩⟩
    · intro ℓ a' w' hI hall
      obtain ⟨x177, x178, x179, x180, x181, x182, x183, x184, x185, x186, x187, x188, rfl, hr⟩ := hI
      have hall' : ∀ i, i < 13 → ℓ i = true := hall
      obtain ⟨V, hcV, htV, rfl⟩ := hr.la (hall' 12 (by decide))
      obtain rfl := hr.f0 (hall' 0 (by decide))
      obtain rfl := hr.f1 (hall' 1 (by decide))
      obtain rfl := hr.f2 (hall' 2 (by decide))
      obtain rfl := hr.f3 (hall' 3 (by decide))
      obtain rfl := hr.f4 (hall' 4 (by decide))
      obtain rfl := hr.f5 (hall' 5 (by decide))
      obtain rfl := hr.f6 (hall' 6 (by decide))
      obtain rfl := hr.f7 (hall' 7 (by decide))
      obtain rfl := hr.f8 (hall' 8 (by decide))
      obtain rfl := hr.f9 (hall' 9 (by decide))
      obtain rfl := hr.f10 (hall' 10 (by decide))
      obtain rfl := hr.f11 (hall' 11 (by decide))
      clear hr hall hall'
      simp only [Act.put, List.setIfInBounds_toArray, List.set_cons_zero, List.set_cons_succ]
      have HA6 : Hid (AN w V B a zs cap VB lo t ad) := HAN.out.turn HAB.out hcV htV
      obtain ⟨g', e', hfz, hcl, hT9, HA⟩ := HA6.out.sets HAB.out (l) 1 hls (by decide) (.int .i64 (IntKind.i64.wrap (s1 - 9))) ((t.ss.getD l sl0).1, IntKind.i64.wrap (s1 - 9), (t.ss.getD l sl0).2.2) rfl ⟨by show IntKind.i64.wrap (s1 - 9) ≤ _; rw [IntKind.wrap_i64]; omega, by show _ ≤ IntKind.i64.wrap (s1 - 9); rw [IntKind.wrap_i64]; omega⟩
      rw [HSA.out] at e'
      cases e'
      have HA7 : Hid (AN w (V.setCell ⟨g, l * 3 + 1, none⟩ (.int .i64 (IntKind.i64.wrap (s1 - 9)))) B a zs cap VB lo { t with ss := t.ss.set (l) ((t.ss.getD l sl0).1, IntKind.i64.wrap (s1 - 9), (t.ss.getD l sl0).2.2) } ad) := HA
      have c9 : V.cell? ⟨g, l * 3 + 1, none⟩ = some (.int .i64 (t.ss.getD l sl0).2.1) := hcl 1 _ rfl
      have f9 : V.frozen? ⟨g, l * 3 + 1, none⟩ = false := hfz _
      clear hfz hcl HA hT9
      have HBE : Hid _ := HA7.out.fin HAB.out.b HAB.out.l
      have HBR : Hid _ := HA7.out.rv
      have HB0 : Hid _ := HA7.out.r0
      have HBX : Hid (DA w (World.setRow (V.setCell ⟨g, l * 3 + 1, none⟩ (.int .i64 (IntKind.i64.wrap (s1 - 9)))) w.heap.size (tbA { t with ss := t.ss.set l ((t.ss.getD l sl0).1, IntKind.i64.wrap (s1 - 9), (t.ss.getD l sl0).2.2) } ad)) B a zs cap { t with ss := t.ss.set l ((t.ss.getD l sl0).1, IntKind.i64.wrap (s1 - 9), (t.ss.getD l sl0).2.2) } ad) := ⟨HBE.out.2.1, HA7.out.w, HA7.out.s, HA7.out.c1, HA7.out.c2, HA7.out.p2, HBE.out.2.2.1, HBE.out.2.2.2⟩
      go_wp2_with (first | (refine wpList_load_row rfl 33 (.tmp 3) rfl VB rfl 33 (tbA { t with ss := t.ss.set l ((t.ss.getD l sl0).1, IntKind.i64.wrap (s1 - 9), (t.ss.getD l sl0).2.2) } ad) (0, 0) _ HBR.out Tryz.underlying33 rfl (by kernel_rfl) ?_) | (refine wpList_store_row rfl 33 (.tmp 2) (.tmp 213) rfl w.heap.size (tbA { t with ss := t.ss.set l ((t.ss.getD l sl0).1, IntKind.i64.wrap (s1 - 9), (t.ss.getD l sl0).2.2) } ad) rfl rfl 33 (#[.int .i64 0, .int .i64 0, .int .i64 0, .int .i64 0, .int .i64 0, .int .i64 0, .int .i64 0, .int .i64 0, .int .i64 0, .int .i64 0, .int .i64 0, .int .i64 0, .int .i64 0, .int .i64 0, .int .i64 0, .slice none 0 0, .slice none 0 0, .slice none 0 0, .slice none 0 0]) HB0.out (by kernel_rfl) rfl (by simp [Value.oneCell']) ?_) | fail)
      refine bodyPost_ret (v := tbV { t with ss := t.ss.set l ((t.ss.getD l sl0).1, IntKind.i64.wrap (s1 - 9), (t.ss.getD l sl0).2.2) } ad) (res_any HBE.out.1 rfl rfl) rfl ⟨{ t with ss := t.ss.set l ((t.ss.getD l sl0).1, IntKind.i64.wrap (s1 - 9), (t.ss.getD l sl0).2.2) }, ad, rfl, HBX.out⟩
    · intro ℓ a' w' i o hI ho hi hL hdep K hK
      obtain ⟨x177, x178, x179, x180, x181, x182, x183, x184, x185, x186, x187, x188, rfl, hr⟩ := hI
      have hi7 : i < 13 := hi
      have hcs : i = 0 ∨ i = 1 ∨ i = 2 ∨ i = 3 ∨ i = 4 ∨ i = 5 ∨ i = 6 ∨ i = 7 ∨ i = 8 ∨ i = 9 ∨ i = 10 ∨ i = 11 ∨ i = 12 := by omega
      clear hi hi7
      rcases hcs with rfl | rfl | rfl | rfl | rfl | rfl | rfl | rfl | rfl | rfl | rfl | rfl | rfl
      · revert hK
        obtain rfl := Option.some.inj ho
        clear hdep ho
        have hlL : ℓ 12 = false := by
          cases h7 : ℓ 12
          · rfl
          · have := (hr.cl h7).1; rw [this] at hL; cases hL
        have hlG := hlL
        have hc := hr.cu hlG
        have ht := hr.tu hlG
        intro hK
        rw [if_pos (by rfl)]
        try simp only [Act.put, List.setIfInBounds_toArray, List.set_cons_zero, List.set_cons_succ]
        go_simp
        exact hK.out _ _ (fun j => if j = 0 then true else ℓ j) ⟨(.pointer (some ⟨VB, 18, none⟩)), x178, x179, x180, x181, x182, x183, x184, x185, x186, x187, x188, (by simp only [Act.put, List.setIfInBounds_toArray, List.set_cons_zero, List.set_cons_succ]), ⟨(fun g7 => absurd (hlL.symm.trans g7) Bool.false_ne_true), hr.cu, hr.tu, (fun g7 => absurd (hlL.symm.trans g7) Bool.false_ne_true), hr.k11, (fun _ => rfl), hr.f1, hr.f2, hr.f3, hr.f4, hr.f5, hr.f6, hr.f7, hr.f8, hr.f9, hr.f10, hr.f11⟩⟩ (if_pos rfl) (fun j hj => if_neg hj)
      · revert hK
        obtain rfl := Option.some.inj ho
        have g0 : ℓ 0 = true := hdep { on := 0, ground := Ground.data } (by simp) rfl
        clear hdep ho
        have hlL : ℓ 12 = false := by
          cases h7 : ℓ 12
          · rfl
          · have := (hr.cl h7).2.1; rw [this] at hL; cases hL
        have hlG := hlL
        have hc := hr.cu hlG
        have ht := hr.tu hlG
        obtain rfl := hr.f0 g0
        intro hK
        rw [if_pos (by rfl)]
        try simp only [Act.put, List.setIfInBounds_toArray, List.set_cons_zero, List.set_cons_succ]
        have cc := (show w'.cell? ⟨VB, 18, none⟩ = some (.slice (some ⟨g, 0, none⟩) ad.sn ad.sc) from by rw [← HSA.out]; exact (HAN.out.turn HAB.out hc ht).rv.cell 18 rfl)
        go_simp
        exact hK.out _ _ (fun j => if j = 1 then true else ℓ j) ⟨(.pointer (some ⟨VB, 18, none⟩)), (.slice (some ⟨g, 0, none⟩) ad.sn ad.sc), x179, x180, x181, x182, x183, x184, x185, x186, x187, x188, (by simp only [Act.put, List.setIfInBounds_toArray, List.set_cons_zero, List.set_cons_succ]), ⟨(fun g7 => absurd (hlL.symm.trans g7) Bool.false_ne_true), hr.cu, hr.tu, (fun g7 => absurd (hlL.symm.trans g7) Bool.false_ne_true), hr.k11, hr.f0, (fun _ => rfl), hr.f2, hr.f3, hr.f4, hr.f5, hr.f6, hr.f7, hr.f8, hr.f9, hr.f10, hr.f11⟩⟩ (if_pos rfl) (fun j hj => if_neg hj)
      · revert hK
        obtain rfl := Option.some.inj ho
        clear hdep ho
        have hlL : ℓ 12 = false := by
          cases h7 : ℓ 12
          · rfl
          · have := (hr.cl h7).2.2.1; rw [this] at hL; cases hL
        have hlG := hlL
        have hc := hr.cu hlG
        have ht := hr.tu hlG
        intro hK
        rw [if_pos (by rfl)]
        try simp only [Act.put, List.setIfInBounds_toArray, List.set_cons_zero, List.set_cons_succ]
        go_simp
        exact hK.out _ _ (fun j => if j = 2 then true else ℓ j) ⟨x177, x178, (.int .i64 (l : Int)), x180, x181, x182, x183, x184, x185, x186, x187, x188, (by simp only [Act.put, List.setIfInBounds_toArray, List.set_cons_zero, List.set_cons_succ]), ⟨(fun g7 => absurd (hlL.symm.trans g7) Bool.false_ne_true), hr.cu, hr.tu, (fun g7 => absurd (hlL.symm.trans g7) Bool.false_ne_true), hr.k11, hr.f0, hr.f1, (fun _ => rfl), hr.f3, hr.f4, hr.f5, hr.f6, hr.f7, hr.f8, hr.f9, hr.f10, hr.f11⟩⟩ (if_pos rfl) (fun j hj => if_neg hj)
      · revert hK
        obtain rfl := Option.some.inj ho
        clear hdep ho
        have hlL : ℓ 12 = false := by
          cases h7 : ℓ 12
          · rfl
          · have := (hr.cl h7).2.2.2.1; rw [this] at hL; cases hL
        have hlG := hlL
        have hc := hr.cu hlG
        have ht := hr.tu hlG
        intro hK
        rw [if_pos (by rfl)]
        try simp only [Act.put, List.setIfInBounds_toArray, List.set_cons_zero, List.set_cons_succ]
        go_simp
        exact hK.out _ _ (fun j => if j = 3 then true else ℓ j) ⟨x177, x178, x179, (.pointer (some ⟨VB, 18, none⟩)), x181, x182, x183, x184, x185, x186, x187, x188, (by simp only [Act.put, List.setIfInBounds_toArray, List.set_cons_zero, List.set_cons_succ]), ⟨(fun g7 => absurd (hlL.symm.trans g7) Bool.false_ne_true), hr.cu, hr.tu, (fun g7 => absurd (hlL.symm.trans g7) Bool.false_ne_true), hr.k11, hr.f0, hr.f1, hr.f2, (fun _ => rfl), hr.f4, hr.f5, hr.f6, hr.f7, hr.f8, hr.f9, hr.f10, hr.f11⟩⟩ (if_pos rfl) (fun j hj => if_neg hj)
      · revert hK
        obtain rfl := Option.some.inj ho
        have g3 : ℓ 3 = true := hdep { on := 3, ground := Ground.data } (by simp) rfl
        clear hdep ho
        have hlL : ℓ 12 = false := by
          cases h7 : ℓ 12
          · rfl
          · have := (hr.cl h7).2.2.2.2.1; rw [this] at hL; cases hL
        have hlG := hlL
        have hc := hr.cu hlG
        have ht := hr.tu hlG
        obtain rfl := hr.f3 g3
        intro hK
        rw [if_pos (by rfl)]
        try simp only [Act.put, List.setIfInBounds_toArray, List.set_cons_zero, List.set_cons_succ]
        have cc := (show w'.cell? ⟨VB, 18, none⟩ = some (.slice (some ⟨g, 0, none⟩) ad.sn ad.sc) from by rw [← HSA.out]; exact (HAN.out.turn HAB.out hc ht).rv.cell 18 rfl)
        go_simp
        exact hK.out _ _ (fun j => if j = 4 then true else ℓ j) ⟨x177, x178, x179, (.pointer (some ⟨VB, 18, none⟩)), (.slice (some ⟨g, 0, none⟩) ad.sn ad.sc), x182, x183, x184, x185, x186, x187, x188, (by simp only [Act.put, List.setIfInBounds_toArray, List.set_cons_zero, List.set_cons_succ]), ⟨(fun g7 => absurd (hlL.symm.trans g7) Bool.false_ne_true), hr.cu, hr.tu, (fun g7 => absurd (hlL.symm.trans g7) Bool.false_ne_true), hr.k11, hr.f0, hr.f1, hr.f2, hr.f3, (fun _ => rfl), hr.f5, hr.f6, hr.f7, hr.f8, hr.f9, hr.f10, hr.f11⟩⟩ (if_pos rfl) (fun j hj => if_neg hj)
      · revert hK
        obtain rfl := Option.some.inj ho
        clear hdep ho
        have hlL : ℓ 12 = false := by
          cases h7 : ℓ 12
          · rfl
          · have := (hr.cl h7).2.2.2.2.2.1; rw [this] at hL; cases hL
        have hlG := hlL
        have hc := hr.cu hlG
        have ht := hr.tu hlG
        intro hK
        rw [if_pos (by rfl)]
        try simp only [Act.put, List.setIfInBounds_toArray, List.set_cons_zero, List.set_cons_succ]
        go_simp
        exact hK.out _ _ (fun j => if j = 5 then true else ℓ j) ⟨x177, x178, x179, x180, x181, (.int .i64 (l : Int)), x183, x184, x185, x186, x187, x188, (by simp only [Act.put, List.setIfInBounds_toArray, List.set_cons_zero, List.set_cons_succ]), ⟨(fun g7 => absurd (hlL.symm.trans g7) Bool.false_ne_true), hr.cu, hr.tu, (fun g7 => absurd (hlL.symm.trans g7) Bool.false_ne_true), hr.k11, hr.f0, hr.f1, hr.f2, hr.f3, hr.f4, (fun _ => rfl), hr.f6, hr.f7, hr.f8, hr.f9, hr.f10, hr.f11⟩⟩ (if_pos rfl) (fun j hj => if_neg hj)
      · revert hK
        obtain rfl := Option.some.inj ho
        have g4 : ℓ 4 = true := hdep { on := 4, ground := Ground.data } (by simp) rfl
        have g5 : ℓ 5 = true := hdep { on := 5, ground := Ground.data } (by simp) rfl
        clear hdep ho
        have hlL : ℓ 12 = false := by
          cases h7 : ℓ 12
          · rfl
          · have := (hr.cl h7).2.2.2.2.2.2.1; rw [this] at hL; cases hL
        have hlG := hlL
        have hc := hr.cu hlG
        have ht := hr.tu hlG
        obtain rfl := hr.f4 g4
        obtain rfl := hr.f5 g5
        intro hK
        rw [if_pos (by rfl)]
        try simp only [Act.put, List.setIfInBounds_toArray, List.set_cons_zero, List.set_cons_succ]
        go_simp
        exact hK.out _ _ (fun j => if j = 6 then true else ℓ j) ⟨x177, x178, x179, x180, (.slice (some ⟨g, 0, none⟩) ad.sn ad.sc), (.int .i64 (l : Int)), (.pointer (some ⟨g, l * 3, none⟩)), x184, x185, x186, x187, x188, (by simp only [Act.put, List.setIfInBounds_toArray, List.set_cons_zero, List.set_cons_succ]), ⟨(fun g7 => absurd (hlL.symm.trans g7) Bool.false_ne_true), hr.cu, hr.tu, (fun g7 => absurd (hlL.symm.trans g7) Bool.false_ne_true), hr.k11, hr.f0, hr.f1, hr.f2, hr.f3, hr.f4, hr.f5, (fun _ => rfl), hr.f7, hr.f8, hr.f9, hr.f10, hr.f11⟩⟩ (if_pos rfl) (fun j hj => if_neg hj)
      · revert hK
        obtain rfl := Option.some.inj ho
        have g6 : ℓ 6 = true := hdep { on := 6, ground := Ground.data } (by simp) rfl
        clear hdep ho
        have hlL : ℓ 12 = false := by
          cases h7 : ℓ 12
          · rfl
          · have := (hr.cl h7).2.2.2.2.2.2.2.1; rw [this] at hL; cases hL
        have hlG := hlL
        have hc := hr.cu hlG
        have ht := hr.tu hlG
        obtain rfl := hr.f6 g6
        intro hK
        rw [if_pos (by rfl)]
        try simp only [Act.put, List.setIfInBounds_toArray, List.set_cons_zero, List.set_cons_succ]
        go_simp
        exact hK.out _ _ (fun j => if j = 7 then true else ℓ j) ⟨x177, x178, x179, x180, x181, x182, (.pointer (some ⟨g, l * 3, none⟩)), (.pointer (some ⟨g, l * 3 + 1, none⟩)), x185, x186, x187, x188, (by simp only [Act.put, List.setIfInBounds_toArray, List.set_cons_zero, List.set_cons_succ]), ⟨(fun g7 => absurd (hlL.symm.trans g7) Bool.false_ne_true), hr.cu, hr.tu, (fun g7 => absurd (hlL.symm.trans g7) Bool.false_ne_true), hr.k11, hr.f0, hr.f1, hr.f2, hr.f3, hr.f4, hr.f5, hr.f6, (fun _ => rfl), hr.f8, hr.f9, hr.f10, hr.f11⟩⟩ (if_pos rfl) (fun j hj => if_neg hj)
      · revert hK
        obtain rfl := Option.some.inj ho
        have g7 : ℓ 7 = true := hdep { on := 7, ground := Ground.data } (by simp) rfl
        clear hdep ho
        have hlL : ℓ 12 = false := by
          cases h7 : ℓ 12
          · rfl
          · have := (hr.cl h7).2.2.2.2.2.2.2.2.1; rw [this] at hL; cases hL
        have hlG := hlL
        have hc := hr.cu hlG
        have ht := hr.tu hlG
        obtain rfl := hr.f7 g7
        intro hK
        rw [if_pos (by rfl)]
        try simp only [Act.put, List.setIfInBounds_toArray, List.set_cons_zero, List.set_cons_succ]
        have cc := (show w'.cell? ⟨g, l * 3 + 1, none⟩ = some (.int .i64 s1) from by rw [← HS1.out]; exact (HAN.out.turn HAB.out hc ht).o.sat HSA.out l hls 1 (by decide) rfl)
        go_simp
        exact hK.out _ _ (fun j => if j = 8 then true else ℓ j) ⟨x177, x178, x179, x180, x181, x182, x183, (.pointer (some ⟨g, l * 3 + 1, none⟩)), (.int .i64 s1), x186, x187, x188, (by simp only [Act.put, List.setIfInBounds_toArray, List.set_cons_zero, List.set_cons_succ]), ⟨(fun g7 => absurd (hlL.symm.trans g7) Bool.false_ne_true), hr.cu, hr.tu, (fun g7 => absurd (hlL.symm.trans g7) Bool.false_ne_true), hr.k11, hr.f0, hr.f1, hr.f2, hr.f3, hr.f4, hr.f5, hr.f6, hr.f7, (fun _ => rfl), hr.f9, hr.f10, hr.f11⟩⟩ (if_pos rfl) (fun j hj => if_neg hj)
      · revert hK
        obtain rfl := Option.some.inj ho
        have g8 : ℓ 8 = true := hdep { on := 8, ground := Ground.data } (by simp) rfl
        clear hdep ho
        have hlL : ℓ 12 = false := by
          cases h7 : ℓ 12
          · rfl
          · have := (hr.cl h7).2.2.2.2.2.2.2.2.2.1; rw [this] at hL; cases hL
        have hlG := hlL
        have hc := hr.cu hlG
        have ht := hr.tu hlG
        obtain rfl := hr.f8 g8
        intro hK
        rw [if_pos (by rfl)]
        try simp only [Act.put, List.setIfInBounds_toArray, List.set_cons_zero, List.set_cons_succ]
        go_simp
        exact hK.out _ _ (fun j => if j = 9 then true else ℓ j) ⟨x177, x178, x179, x180, x181, x182, x183, x184, (.int .i64 s1), (.int .i64 (IntKind.i64.wrap (s1 - 9))), x187, x188, (by simp only [Act.put, List.setIfInBounds_toArray, List.set_cons_zero, List.set_cons_succ]), ⟨(fun g7 => absurd (hlL.symm.trans g7) Bool.false_ne_true), hr.cu, hr.tu, (fun g7 => absurd (hlL.symm.trans g7) Bool.false_ne_true), hr.k11, hr.f0, hr.f1, hr.f2, hr.f3, hr.f4, hr.f5, hr.f6, hr.f7, hr.f8, (fun _ => rfl), hr.f10, hr.f11⟩⟩ (if_pos rfl) (fun j hj => if_neg hj)
      · revert hK
        obtain rfl := Option.some.inj ho
        have g1 : ℓ 1 = true := hdep { on := 1, ground := Ground.data } (by simp) rfl
        have g2 : ℓ 2 = true := hdep { on := 2, ground := Ground.data } (by simp) rfl
        have g0 : ℓ 0 = true := hdep { on := 0, ground := Ground.phase } (by simp) rfl
        have g3 : ℓ 3 = true := hdep { on := 3, ground := Ground.phase } (by simp) rfl
        have g4 : ℓ 4 = true := hdep { on := 4, ground := Ground.phase } (by simp) rfl
        have g5 : ℓ 5 = true := hdep { on := 5, ground := Ground.phase } (by simp) rfl
        have g6 : ℓ 6 = true := hdep { on := 6, ground := Ground.phase } (by simp) rfl
        have g7 : ℓ 7 = true := hdep { on := 7, ground := Ground.phase } (by simp) rfl
        have g8 : ℓ 8 = true := hdep { on := 8, ground := Ground.phase } (by simp) rfl
        have g9 : ℓ 9 = true := hdep { on := 9, ground := Ground.phase } (by simp) rfl
        clear hdep ho
        have hlL : ℓ 12 = false := by
          cases h7 : ℓ 12
          · rfl
          · have := (hr.cl h7).2.2.2.2.2.2.2.2.2.2.1; rw [this] at hL; cases hL
        have hlG := hlL
        have hc := hr.cu hlG
        have ht := hr.tu hlG
        obtain rfl := hr.f1 g1
        obtain rfl := hr.f2 g2
        intro hK
        rw [if_pos (by rfl)]
        try simp only [Act.put, List.setIfInBounds_toArray, List.set_cons_zero, List.set_cons_succ]
        go_simp
        exact hK.out _ _ (fun j => if j = 10 then true else ℓ j) ⟨x177, (.slice (some ⟨g, 0, none⟩) ad.sn ad.sc), (.int .i64 (l : Int)), x180, x181, x182, x183, x184, x185, x186, (.pointer (some ⟨g, l * 3, none⟩)), x188, (by simp only [Act.put, List.setIfInBounds_toArray, List.set_cons_zero, List.set_cons_succ]), ⟨(fun g7 => absurd (hlL.symm.trans g7) Bool.false_ne_true), hr.cu, hr.tu, (fun g7 => absurd (hlL.symm.trans g7) Bool.false_ne_true), (fun g7 => ⟨rfl, trivial⟩), hr.f0, hr.f1, hr.f2, hr.f3, hr.f4, hr.f5, hr.f6, hr.f7, hr.f8, hr.f9, (fun _ => rfl), hr.f11⟩⟩ (if_pos rfl) (fun j hj => if_neg hj)
      · revert hK
        obtain rfl := Option.some.inj ho
        have g10 : ℓ 10 = true := hdep { on := 10, ground := Ground.data } (by simp) rfl
        have g0 : ℓ 0 = true := hdep { on := 0, ground := Ground.phase } (by simp) rfl
        have g1 : ℓ 1 = true := hdep { on := 1, ground := Ground.phase } (by simp) rfl
        have g2 : ℓ 2 = true := hdep { on := 2, ground := Ground.phase } (by simp) rfl
        have g3 : ℓ 3 = true := hdep { on := 3, ground := Ground.phase } (by simp) rfl
        have g4 : ℓ 4 = true := hdep { on := 4, ground := Ground.phase } (by simp) rfl
        have g5 : ℓ 5 = true := hdep { on := 5, ground := Ground.phase } (by simp) rfl
        have g6 : ℓ 6 = true := hdep { on := 6, ground := Ground.phase } (by simp) rfl
        have g7 : ℓ 7 = true := hdep { on := 7, ground := Ground.phase } (by simp) rfl
        have g8 : ℓ 8 = true := hdep { on := 8, ground := Ground.phase } (by simp) rfl
        have g9 : ℓ 9 = true := hdep { on := 9, ground := Ground.phase } (by simp) rfl
        clear hdep ho
        have hlL : ℓ 12 = false := by
          cases h7 : ℓ 12
          · rfl
          · have := (hr.cl h7).2.2.2.2.2.2.2.2.2.2.2.1; rw [this] at hL; cases hL
        have hlG := hlL
        have hc := hr.cu hlG
        have ht := hr.tu hlG
        obtain rfl := hr.f10 g10
        intro hK
        rw [if_pos (by rfl)]
        try simp only [Act.put, List.setIfInBounds_toArray, List.set_cons_zero, List.set_cons_succ]
        go_simp
        exact hK.out _ _ (fun j => if j = 11 then true else ℓ j) ⟨x177, x178, x179, x180, x181, x182, x183, x184, x185, x186, (.pointer (some ⟨g, l * 3, none⟩)), (.pointer (some ⟨g, l * 3 + 1, none⟩)), (by simp only [Act.put, List.setIfInBounds_toArray, List.set_cons_zero, List.set_cons_succ]), ⟨(fun g7 => absurd (hlL.symm.trans g7) Bool.false_ne_true), hr.cu, hr.tu, (fun g7 => absurd (hlL.symm.trans g7) Bool.false_ne_true), (fun _ => ⟨g10, trivial⟩), hr.f0, hr.f1, hr.f2, hr.f3, hr.f4, hr.f5, hr.f6, hr.f7, hr.f8, hr.f9, hr.f10, (fun _ => rfl)⟩⟩ (if_pos rfl) (fun j hj => if_neg hj)
      · revert hK
        obtain rfl := Option.some.inj ho
        have g11 : ℓ 11 = true := hdep { on := 11, ground := Ground.data } (by simp) rfl
        have g9 : ℓ 9 = true := hdep { on := 9, ground := Ground.data } (by simp) rfl
        have g0 : ℓ 0 = true := hdep { on := 0, ground := Ground.phase } (by simp) rfl
        have g1 : ℓ 1 = true := hdep { on := 1, ground := Ground.phase } (by simp) rfl
        have g2 : ℓ 2 = true := hdep { on := 2, ground := Ground.phase } (by simp) rfl
        have g3 : ℓ 3 = true := hdep { on := 3, ground := Ground.phase } (by simp) rfl
        have g4 : ℓ 4 = true := hdep { on := 4, ground := Ground.phase } (by simp) rfl
        have g5 : ℓ 5 = true := hdep { on := 5, ground := Ground.phase } (by simp) rfl
        have g6 : ℓ 6 = true := hdep { on := 6, ground := Ground.phase } (by simp) rfl
        have g7 : ℓ 7 = true := hdep { on := 7, ground := Ground.phase } (by simp) rfl
        have g8 : ℓ 8 = true := hdep { on := 8, ground := Ground.phase } (by simp) rfl
        clear hdep ho
        have hc := hr.cu hL
        have ht := hr.tu hL
        obtain rfl := hr.f11 g11
        obtain rfl := hr.f9 g9
        intro hK
        rw [if_pos (by rfl)]
        try simp only [Act.put, List.setIfInBounds_toArray, List.set_cons_zero, List.set_cons_succ]
        have cc := (show w'.cell? ⟨g, l * 3 + 1, none⟩ = some (.int .i64 s1) from by rw [← HS1.out]; exact (HAN.out.turn HAB.out hc ht).o.sat HSA.out l hls 1 (by decide) rfl)
        have cf := (HAN.out.turn HAB.out hc ht).o.sfr HSA.out hs0 (l * 3 + 1)
        go_simp
        exact hK.out _ _ (fun j => if j = 12 then true else ℓ j) ⟨x177, x178, x179, x180, x181, x182, x183, x184, x185, (.int .i64 (IntKind.i64.wrap (s1 - 9))), x187, (.pointer (some ⟨g, l * 3 + 1, none⟩)), (by simp only [Act.put, List.setIfInBounds_toArray, List.set_cons_zero, List.set_cons_succ]), ⟨(fun _ => ⟨g0, g1, g2, g3, g4, g5, g6, g7, g8, g9, (hr.k11 g11).1, g11, trivial⟩), (fun g => by cases g), (fun g => by cases g), (fun _ => ⟨w', hc, ht, rfl⟩), hr.k11, hr.f0, hr.f1, hr.f2, hr.f3, hr.f4, hr.f5, hr.f6, hr.f7, hr.f8, hr.f9, hr.f10, hr.f11⟩⟩ (if_pos rfl) (fun j hj => if_neg hj)
    · rintro a' w' ℓ ℓ' hℓ hI
      rw [← show ℓ = ℓ' from funext hℓ]
      exact hI
  · clear hx0 hx1
    have v12 := HAN.out.rv.cell 12 rfl
    have v13 := HAN.out.rv.cell 13 rfl
    have hs0 : 0 < ad.sn := by have := HL.out; omega
    have hsi : (0 : Int) < (ad.sn : Int) := by omega
    have hls : l < ad.sn := by have := HL.out; omega
    have hlsi : (l : Int) < (ad.sn : Int) := by omega
    obtain ⟨g, hsa⟩ := HAN.out.o.sab hs0
    have HSA : Hid (ad.sa = some ⟨g, 0, none⟩) := hsa
    have v18 : w4.cell? ⟨VB, 18, none⟩ = some (.slice (some ⟨g, 0, none⟩) ad.sn ad.sc) := by rw [← hsa]; exact HAN.out.rv.cell 18 rfl
    clear hsa
    obtain ⟨u, hu⟩ : ∃ m, IntKind.i64.wrap (t.pad + t.grd) = m := ⟨_, rfl⟩
    obtain ⟨g', e', hfz, hcl, hT9, HA⟩ := HAN.out.sets HAB.out (0) 2 hs0 (by decide) (.int .i64 u) ((t.ss.getD 0 sl0).1, (t.ss.getD 0 sl0).2.1, u) rfl (HAN.out.w.sf 0 hs0)
    rw [HSA.out] at e'
    cases e'
    have HA7 : Hid (AN w (w4.setCell ⟨g, 2, none⟩ (.int .i64 u)) B a zs cap VB lo { t with ss := t.ss.set (0) ((t.ss.getD 0 sl0).1, (t.ss.getD 0 sl0).2.1, u) } ad) := HA
    have c9 : w4.cell? ⟨g, 2, none⟩ = some (.int .i64 (t.ss.getD 0 sl0).2.2) := hcl 2 _ rfl
    have f9 : w4.frozen? ⟨g, 2, none⟩ = false := hfz _
    clear hfz hcl HA hT9
    have HBE : Hid _ := HA7.out.fin HAB.out.b HAB.out.l
    have HBR : Hid _ := HA7.out.rv
    have HB0 : Hid _ := HA7.out.r0
    have HBX : Hid (DA w (World.setRow (w4.setCell ⟨g, 2, none⟩ (.int .i64 u)) w.heap.size (tbA { t with ss := t.ss.set 0 ((t.ss.getD 0 sl0).1, (t.ss.getD 0 sl0).2.1, u) } ad)) B a zs cap { t with ss := t.ss.set 0 ((t.ss.getD 0 sl0).1, (t.ss.getD 0 sl0).2.1, u) } ad) := ⟨HBE.out.2.1, HA7.out.w, HA7.out.s, HA7.out.c1, HA7.out.c2, HA7.out.p2, HBE.out.2.2.1, HBE.out.2.2.2⟩
    go_wp2_with (first | (refine wpList_load_row rfl 33 (.tmp 3) rfl VB rfl 33 (tbA { t with ss := t.ss.set 0 ((t.ss.getD 0 sl0).1, (t.ss.getD 0 sl0).2.1, u) } ad) (0, 0) _ HBR.out Tryz.underlying33 rfl (by kernel_rfl) ?_) | (refine wpList_store_row rfl 33 (.tmp 2) (.tmp 213) rfl w.heap.size (tbA { t with ss := t.ss.set 0 ((t.ss.getD 0 sl0).1, (t.ss.getD 0 sl0).2.1, u) } ad) rfl rfl 33 (#[.int .i64 0, .int .i64 0, .int .i64 0, .int .i64 0, .int .i64 0, .int .i64 0, .int .i64 0, .int .i64 0, .int .i64 0, .int .i64 0, .int .i64 0, .int .i64 0, .int .i64 0, .int .i64 0, .int .i64 0, .slice none 0 0, .slice none 0 0, .slice none 0 0, .slice none 0 0]) HB0.out (by kernel_rfl) rfl (by simp [Value.oneCell']) ?_) | fail)
    refine bodyPost_ret (v := tbV { t with ss := t.ss.set 0 ((t.ss.getD 0 sl0).1, (t.ss.getD 0 sl0).2.1, u) } ad) (res_any HBE.out.1 rfl rfl) rfl ⟨{ t with ss := t.ss.set 0 ((t.ss.getD 0 sl0).1, (t.ss.getD 0 sl0).2.1, u) }, ad, rfl, HBX.out⟩
  · clear hx0 hx1
    have HA6 : Hid (AN w (w4.alloc (.cells #[] 42)) B a zs cap VB lo t ad) := HAN.out.alloc _
    have u18 := HA6.out.rv.cell 18 rfl
    have z18 := HA6.out.rv.free 18
    obtain ⟨T9, A9, HA⟩ := HAN.out.noslots HAB.out (by have := HLV.out; have := HAN.out.rv.lt; omega)
    have HA7 : Hid (AN w ((w4.alloc (.cells #[] 42)).setCell ⟨VB, 18, none⟩ (.slice (some ⟨w4.heap.size, 0, none⟩) 0 0)) B a zs cap VB lo T9 A9) := HA
    clear HA HA6
    have HBE : Hid _ := HA7.out.fin HAB.out.b HAB.out.l
    have HBR : Hid _ := HA7.out.rv
    have HB0 : Hid _ := HA7.out.r0
    have HBX : Hid (DA w (World.setRow ((w4.alloc (.cells #[] 42)).setCell ⟨VB, 18, none⟩ (.slice (some ⟨w4.heap.size, 0, none⟩) 0 0)) w.heap.size (tbA T9 A9)) B a zs cap T9 A9) := ⟨HBE.out.2.1, HA7.out.w, HA7.out.s, HA7.out.c1, HA7.out.c2, HA7.out.p2, HBE.out.2.2.1, HBE.out.2.2.2⟩
    go_wp2_with (first | (refine wpList_load_row rfl 33 (.tmp 3) rfl VB rfl 33 (tbA T9 A9) (0, 0) _ HBR.out Tryz.underlying33 rfl (by kernel_rfl) ?_) | (refine wpList_store_row rfl 33 (.tmp 2) (.tmp 213) rfl w.heap.size (tbA T9 A9) rfl rfl 33 (#[.int .i64 0, .int .i64 0, .int .i64 0, .int .i64 0, .int .i64 0, .int .i64 0, .int .i64 0, .int .i64 0, .int .i64 0, .int .i64 0, .int .i64 0, .int .i64 0, .int .i64 0, .int .i64 0, .int .i64 0, .slice none 0 0, .slice none 0 0, .slice none 0 0, .slice none 0 0]) HB0.out (by kernel_rfl) rfl (by simp [Value.oneCell']) ?_) | fail)
    refine bodyPost_ret (v := tbV T9 A9) (res_any HBE.out.1 rfl rfl) rfl ⟨T9, A9, rfl, HBX.out⟩
  · clear hx0 hx1
    have hp2 : 2 ≤ ad.pn := by have := HDT.out.n; have := HAN.out.w.pl; omega
    have hp0 : 0 < ad.pn := by omega
    have hpi : (0 : Int) < (ad.pn : Int) := by omega
    obtain ⟨g, hpa⟩ := HAN.out.o.pab hp0
    have HPA : Hid (ad.pa = some ⟨g, 0, none⟩) := hpa
    have v15 : w4.cell? ⟨VB, 15, none⟩ = some (.slice (some ⟨g, 0, none⟩) ad.pn ad.pc) := by rw [← hpa]; exact HAN.out.rv.cell 15 rfl
    clear hpa
    have hw2 : ∀ i, i < ad.pn → (ad.Y i).wn = 2 := fun i hi => by rw [← (HAN.out.o.pw i hi).ln]; exact HDT.out.ws2 i (by have := HAN.out.w.pl; omega)
    have HW0 : Hid ((ad.Y 0).wn = 2) := hw2 0 hp0
    obtain ⟨b, off, hwa⟩ := HAN.out.o.wab 0 hp0 (by have := HW0.out; omega)
    have HWA : Hid ((ad.Y 0).wa = some ⟨b, off, none⟩) := hwa
    have r4 : w4.cell? ⟨g, 4, none⟩ = some (.slice (some ⟨b, off, none⟩) 2 (ad.Y 0).wc) := HAN.out.o.pat HPA.out 0 hp0 4 (by decide) (by rw [← HWA.out, ← HW0.out]; rfl)
    obtain ⟨b', off', e', hfz, hcl, T9, hT9, HA⟩ := HAN.out.setw HAB.out 0 0 2 hp0 (by have := HW0.out; omega) (by decide) (.int .i64 3) (((t.ps.getD 0 pt0).ws.getD 0 wi0).1, ((t.ps.getD 0 pt0).ws.getD 0 wi0).2.1, 3) rfl rfl
    rw [HWA.out] at e'
    cases e'
    have HA7 : Hid (AN w (w4.setCell ⟨b, off + 2, none⟩ (.int .i64 3)) B a zs cap VB lo T9 ad) := (show AN w (w4.setCell ⟨b, off + 2, none⟩ (.int .i64 3)) B a zs cap VB lo T9 ad from by simpa using HA)
    have c9 : w4.cell? ⟨b, off + 2, none⟩ = some (.int .i64 ((t.ps.getD 0 pt0).ws.getD 0 wi0).2.2) := by simpa using hcl 2 _ rfl
    have f9 : w4.frozen? ⟨b, off + 2, none⟩ = false := hfz _
    clear hfz hcl HA hT9 hwa hw2
    have HBE : Hid _ := HA7.out.fin HAB.out.b HAB.out.l
    have HBR : Hid _ := HA7.out.rv
    have HB0 : Hid _ := HA7.out.r0
    have HBX : Hid (DA w (World.setRow (w4.setCell ⟨b, off + 2, none⟩ (.int .i64 3)) w.heap.size (tbA T9 ad)) B a zs cap T9 ad) := ⟨HBE.out.2.1, HA7.out.w, HA7.out.s, HA7.out.c1, HA7.out.c2, HA7.out.p2, HBE.out.2.2.1, HBE.out.2.2.2⟩
    go_wp2_with (first | (refine wpList_load_row rfl 33 (.tmp 3) rfl VB rfl 33 (tbA T9 ad) (0, 0) _ HBR.out Tryz.underlying33 rfl (by kernel_rfl) ?_) | (refine wpList_store_row rfl 33 (.tmp 2) (.tmp 213) rfl w.heap.size (tbA T9 ad) rfl rfl 33 (#[.int .i64 0, .int .i64 0, .int .i64 0, .int .i64 0, .int .i64 0, .int .i64 0, .int .i64 0, .int .i64 0, .int .i64 0, .int .i64 0, .int .i64 0, .int .i64 0, .int .i64 0, .int .i64 0, .int .i64 0, .slice none 0 0, .slice none 0 0, .slice none 0 0, .slice none 0 0]) HB0.out (by kernel_rfl) rfl (by simp [Value.oneCell']) ?_) | fail)
    refine bodyPost_ret (v := tbV T9 ad) (res_any HBE.out.1 rfl rfl) rfl ⟨T9, ad, rfl, HBX.out⟩
  · have hb0 : (x == 0) = false := beq_eq_false_iff_ne.2 (by omega)
    have hb1 : (x == 1) = false := beq_eq_false_iff_ne.2 (by omega)
    have hb2 : (x == 2) = false := beq_eq_false_iff_ne.2 (by omega)
    have hb3 : (x == 3) = false := beq_eq_false_iff_ne.2 (by omega)
    have hb4 : (x == 4) = false := beq_eq_false_iff_ne.2 (by omega)
    have hb5 : (x == 5) = false := beq_eq_false_iff_ne.2 (by omega)
    have hb6 : (x == 6) = false := beq_eq_false_iff_ne.2 (by omega)
    have hb7 : (x == 7) = false := beq_eq_false_iff_ne.2 (by omega)
    have hb8 : (x == 8) = false := beq_eq_false_iff_ne.2 (by omega)
    have hb9 : (x == 9) = false := beq_eq_false_iff_ne.2 (by omega)
    have hb10 : (x == 10) = false := beq_eq_false_iff_ne.2 (by omega)
    have hb11 : (x == 11) = false := beq_eq_false_iff_ne.2 (by omega)
    have hb12 : (x == 12) = false := beq_eq_false_iff_ne.2 (by omega)
    have hb13 : (x == 13) = false := beq_eq_false_iff_ne.2 (by omega)
    have hb14 : (x == 14) = false := beq_eq_false_iff_ne.2 (by omega)
    have hb15 : (x == 15) = false := beq_eq_false_iff_ne.2 (by omega)
    have hb16 : (x == 16) = false := beq_eq_false_iff_ne.2 (by omega)
    have hb17 : (x == 17) = false := beq_eq_false_iff_ne.2 (by omega)
    have hb18 : (x == 18) = false := beq_eq_false_iff_ne.2 (by omega)
    have HBE : Hid _ := HAN.out.fin HAB.out.b HAB.out.l
    have HBR : Hid _ := HAN.out.rv
    have HB0 : Hid _ := HAN.out.r0
    have HBX : Hid (DA w (World.setRow w4 w.heap.size (tbA t ad)) B a zs cap t ad) := ⟨HBE.out.2.1, HAN.out.w, HAN.out.s, HAN.out.c1, HAN.out.c2, HAN.out.p2, HBE.out.2.2.1, HBE.out.2.2.2⟩
    go_wp2_with (first | (refine wpList_load_row rfl 33 (.tmp 3) rfl VB rfl 33 (tbA t ad) (0, 0) _ HBR.out Tryz.underlying33 rfl (by kernel_rfl) ?_) | (refine wpList_store_row rfl 33 (.tmp 2) (.tmp 213) rfl w.heap.size (tbA t ad) rfl rfl 33 (#[.int .i64 0, .int .i64 0, .int .i64 0, .int .i64 0, .int .i64 0, .int .i64 0, .int .i64 0, .int .i64 0, .int .i64 0, .int .i64 0, .int .i64 0, .int .i64 0, .int .i64 0, .int .i64 0, .int .i64 0, .slice none 0 0, .slice none 0 0, .slice none 0 0, .slice none 0 0]) HB0.out (by kernel_rfl) rfl (by simp [Value.oneCell']) ?_) | fail)
    refine bodyPost_ret (v := tbV t ad) (res_any HBE.out.1 rfl rfl) rfl ⟨t, ad, rfl, HBX.out⟩
end Go.Proofs.YtlomcdgfcocmmaaGreatDoor
