/-
  Guests that come in, and how they are read. No function of the program in sight; no conditions but those that each fact names.
  What is read of a guest, by the specification and by the program: the same word, the same fault. Conditions: lengths are lengths of slices, numbers are numbers of their kinds.
-/
import Derived.Test.YtjlhkjiccibgdaaGreatDoorGst
import Derived.Test.YtjlhkjiccibgdaaGreatDoorWnl
import Derived.ChangeSlices
import Derived.Deep.SlicePairs
import Derived.OpenShut
import Derived.Test.YtjlhkjiccibgdaaGreatDoorProg
import Derived.Test.YtjlhkjiccibgdaaGreatDoorLod
namespace Go.Proofs.YtjlhkjiccibgdaaGreatDoor
open Go.ChangeShapes Go.WideShapes Go.ChangeAt Go.RowKit Go.Joins Go.Deep
set_option linter.unusedVariables false

theorem cells22 : Tryz.prog.cellsOf 24 = 1 := by kernel_rfl
theorem cells5 : Tryz.prog.cellsOf 5 = 1 := by kernel_rfl
theorem cellsBS : Tryz.prog.cellsOf 61 = 1 := by kernel_rfl
theorem cellsBB : Tryz.prog.cellsOf 25 = 1 := by kernel_rfl
theorem cellsUS : Tryz.prog.cellsOf 23 = 1 := by kernel_rfl
theorem cellsLG : Tryz.prog.cellsOf 27 = 3 := by kernel_rfl
theorem nums_open {H : Type} {enc : TypeId × Value → H} {W : World} {base : Nat} {held : Bool} {fuel : Nat} {cs : List Value} {x : DataW H × List MemPlace} {t e : TypeId} {k : IntKind} (ht : Tryz.prog.underlying t = some (.slice e)) (he : Tryz.prog.underlying e = some (.int k)) (hc : Tryz.prog.cellsOf e = 1)
    (h : DataW.trod enc Tryz.prog W base (fun _ => true) held fuel t cs = some x) : ∃ a zs c, cs = [.slice a (List.length zs) c] ∧ Seg k W a zs ∧ (∀ z ∈ zs, (Lit.int k z).wf = true) ∧ zs.length ≤ 9223372036854775807 ∧ zs.length ≤ c := by
  rcases open_ints ht he hc h with ⟨rfl, _⟩ | ⟨a, l, c, zs, rfl, _, hl, hm, hz, _, hcell, hwz⟩
  · exact ⟨none, [], 0, rfl, fun h => absurd h (by simp), by simp, by simp, by simp⟩
  · obtain ⟨ys, hy1, hy2, hy3⟩ := seg_of_row (k := k) (w := W) (a := some a) (len := l) (cap := c) (zs := zs) (.inr ⟨a, rfl, hl, hm, by simpa using hz, hcell, hwz⟩)
    have : maxLen = 9223372036854775807 := rfl
    exact ⟨some a, ys, c, by rw [hy1], hy2, hy3, by omega, by omega⟩
theorem brows_open {H : Type} {enc : TypeId × Value → H} {W : World} {base : Nat} {held : Bool} {fuel : Nat} {cs : List Value} {x : DataW H × List MemPlace}
    (h : DataW.trod enc Tryz.prog W base (fun _ => true) held fuel 25 cs = some x) : ∃ a n c D, cs = [.slice a n c] ∧ BSeg W a n D ∧ n ≤ 9223372036854775807 ∧ (∀ i, i < n → (D i).length ≤ 9223372036854775807) ∧ ∀ i, i < n → ∀ z ∈ D i, (Lit.int .u8 z).wf = true := by
  rcases open_slice1 (P := Tryz.prog) Tryz.underlying25 cellsBS h with ⟨rfl, _⟩ | ⟨a, len, cap, m, n, V, D, Pl, rfl, hb, hl, hm, hmm, _, hx⟩
  · exact ⟨none, 0, 0, fun _ => [], rfl, fun h => absurd h (by omega), by omega, fun i hi => absurd hi (by omega), fun i hi => absurd hi (by omega)⟩
  · have hlm : len ≤ m := by rw [hmm]; split <;> omega
    obtain ⟨Z, hZ⟩ := choose_lt (α := List Int) (n := len) (p := fun i z => (∃ ai ci, W.cell? (a.add i) = some (.slice ai z.length ci) ∧ Seg .u8 W ai z ∧ z.length ≤ ci) ∧ z.length ≤ 9223372036854775807 ∧ ∀ x ∈ z, (Lit.int .u8 x).wf = true) (fun i hi => by
      obtain ⟨h0, t0⟩ := hx i (by omega)
      obtain ⟨ai, ws, ci, e0, hs, hw, hl, hlc⟩ := nums_open Tryz.underlying61 Tryz.underlying5 cells5 t0
      injection e0 with e0
      exact ⟨ws, ⟨ai, ci, by rw [h0, e0], hs, hlc⟩, hl, hw⟩)
    refine ⟨some a, len, cap, Z, rfl, fun h0 => ?_, by have : maxLen = 9223372036854775807 := rfl; omega, fun i hi => (hZ i hi).2.1, fun i hi => (hZ i hi).2.2⟩
    obtain ⟨⟨a0, c0, h00, _⟩, _⟩ := hZ 0 h0
    obtain ⟨b, off, rfl, hlt⟩ := addr_of h00 rfl
    refine ⟨b, off, rfl, hlt, fun i hi => ?_⟩
    obtain ⟨⟨ai, ci, g1, g2, g3⟩, _⟩ := hZ i hi
    rw [add_plain] at g1
    exact ⟨ai, ci, g1, g2, g3⟩
theorem og_kept {w w' : World} {lo m hi : Nat} {ra ma : Option Addr} {rs : List Int} {n : Nat} {D : Nat → List Int} (hb : Below w.heap.size w w') (h : OGst w lo m hi ra ma rs n D) : OGst w' lo m hi ra ma rs n D := h.below hb
theorem ai_kept {w w' : World} {lo hi : Nat} {a : Option Addr} {xs : List Wn} (hb : Below w.heap.size w w') (h : AI w lo hi a xs) : AI w' lo hi a xs := h.below hb
/-- What is known of a guest that came in. -/
structure GIn (W : World) (ra ma : Option Addr) (rs : List Int) (pc : Int) (n : Nat) (D : Nat → List Int) : Prop where
  seg : GSeg W ra ma rs n D
  rlen : rs.length ≤ 9223372036854775807
  regs : ∀ z ∈ rs, (Lit.int .u32 z).wf = true
  pcw : (Lit.int .u32 pc).wf = true
  nlen : n ≤ 9223372036854775807
  dlen : ∀ i, i < n → (D i).length ≤ 9223372036854775807
  bytes : ∀ i, i < n → ∀ z ∈ D i, (Lit.int .u8 z).wf = true
set_option maxRecDepth 100000 in
theorem guest_arg {H : Type} {enc : TypeId × Value → H} {W : World} {r : Reach} {b0 base : Nat} {held : Bool} {v : Value} {d : DataW H} {p : List MemPlace}
    (hv : Value.okWide Tryz.prog W r b0 27 v) (h : DataW.Trod enc Tryz.prog W base (fun _ => true) held 27 v d p) :
    ∃ ra rs rc pc ma n mc D, v = gst ra (List.length rs) rc pc ma n mc ∧ GIn W ra ma rs pc n D := by
  obtain ⟨cs, rfl, hsz⟩ := okWide_struct Tryz.underlying27 hv
  obtain ⟨v0, v1, v2, rfl⟩ := array3 (hsz.trans cellsLG)
  obtain ⟨fuel, hf⟩ := h
  obtain ⟨xs, n, _, hx, _, hl, hfs⟩ := DataW.trod_struct Tryz.underlying27 hf
  obtain ⟨y0, y1, y2, rfl⟩ := list3 hl
  have g0 := hfs 0 _ rfl
  have g1 := hfs 1 _ rfl
  have g2 := hfs 2 _ rfl
  simp only [Value.cells] at g0 g1 g2
  obtain ⟨ra, rs, rc, e0, hs, hw, h1, h2⟩ := nums_open Tryz.underlying23 Tryz.underlying24 cells22 g0
  obtain ⟨pc, e1, _, w1⟩ := DataW.trod_int Tryz.underlying24 g1
  obtain ⟨ma, m, mc, D, e2, hm, k1, k2, k3⟩ := brows_open g2
  simp [cellsUS, cells22] at e0 e1 e2
  simp [cellsBB] at e2
  subst e0 e1 e2
  exact ⟨ra, rs, rc, pc, ma, m, mc, D, rfl, ⟨hs, hm⟩, h1, hw, w1, k1, k2, k3⟩
end Go.Proofs.YtjlhkjiccibgdaaGreatDoor
namespace Go.Proofs.YtjlhkjiccibgdaaGreatDoor
open Go.ChangeShapes Go.WideShapes Go.ChangeAt Go.RowKit Go.Deep
set_option linter.unusedVariables false

/-- What an access of a right guest comes to: the fault 'r', or the word 'v'. -/
def RdP (xs : List Wn) (n : Nat) (D : Nat → List Int) (ad size kind v r : Int) : Prop :=
  ∃ ra, AtP xs n ad ra ∧ ((AccP size kind ∧ FauP size kind ad ra (xs.getD ra.toNat wn0).2.2 r) ∨ (¬ AccP size kind ∧ r = 9)) ∧ ((¬ r = 0 ∧ v = 0) ∨ (r = 0 ∧ ∃ K fr S bs, ra = ((K : Nat) : Int) ∧ AccIn xs n D ad size K fr S bs ∧ v = getW D K fr S))
theorem RdP.ex {xs : List Wn} {rs : List Int} {n : Nat} {D : Nat → List Int} (hg : GOk xs rs n D) (ad size kind : Int) : ∃ v r, RdP xs n D ad size kind v r := by
  obtain ⟨ra, hra⟩ := AtP.ex xs ad n
  by_cases hacc : AccP size kind
  · obtain ⟨r, hr⟩ := FauP.ex size kind ad ra (xs.getD ra.toNat wn0).2.2
    by_cases h0 : r = 0
    · subst h0
      obtain ⟨K, fr, S, bs, e, hin⟩ := acc_in hg hra hacc hr
      exact ⟨getW D K fr S, 0, ra, hra, .inl ⟨hacc, hr⟩, .inr ⟨rfl, K, fr, S, bs, e, hin, rfl⟩⟩
    · exact ⟨0, r, ra, hra, .inl ⟨hacc, hr⟩, .inl ⟨h0, rfl⟩⟩
  · exact ⟨0, 9, ra, hra, .inr ⟨hacc, rfl⟩, .inl ⟨by omega, rfl⟩⟩
theorem fault_i {xs : List Wn} {rs : List Int} {n : Nat} {D : Nat → List Int} {ad size kind v r : Int} (hg : GOk xs rs n D) (h : RdP xs n D ad size kind v r) (a : Option Addr) (cap : Nat) (X : World) (hs : ASeg X a xs) (hf : Fit xs) (hc : n ≤ cap) (had : 0 ≤ ad ∧ ad < 4294967296) :
    Calls Tryz.prog 93 #[.slice a n cap, .int .u32 ad, .int .i64 size, .int .i64 kind] X fun e w' => e = .returned (.int .i64 r) ∧ Below X.heap.size X w' := by
  obtain ⟨ra, hra, hr, _⟩ := h
  have h4 := hg.1.1
  have hn := hg.2.2.2.1
  refine impl_fault a cap n xs true ad ra size kind r X hs hf hn.symm (by omega) hc ⟨fun _ => hg.1, fun _ => rfl⟩ had (fun _ => hra) (fun _ hacc => ?_) (fun h => ?_)
  · rcases hr with ⟨_, h⟩ | ⟨h, _⟩
    · exact h
    · exact absurd hacc h
  · rcases hr with ⟨g, _⟩ | ⟨_, g⟩
    · rcases h with h | h
      · cases h
      · exact absurd g h
    · exact g
theorem fault_l {xs : List Wn} {rs : List Int} {n : Nat} {D : Nat → List Int} {ad size kind v r : Int} (hg : GOk xs rs n D) (h : RdP xs n D ad size kind v r) (hacc : AccP size kind) (a : Option Addr) (cap : Nat) (X : World) (hs : ASeg X a xs) (had : 0 ≤ ad ∧ ad < 4294967296) :
    Calls Tryz.prog 43 #[.slice a n cap, .int .u32 ad, .int .i64 size, .int .i64 kind] X fun e w' => e = .returned (.int .i64 r) ∧ Below X.heap.size X w' := by
  obtain ⟨ra, hra, hr, _⟩ := h
  have hn := hg.2.2.2.1
  rcases hr with ⟨_, h⟩ | ⟨h, _⟩
  · exact spec_l07fault a cap n xs ad ra size kind r X hs hn.symm hg.1 had hacc hra h
  · exact absurd hacc h
theorem get_s {xs : List Wn} {rs : List Int} {n : Nat} {D : Nat → List Int} {ad size kind v : Int} (hg : GOk xs rs n D) (h : RdP xs n D ad size kind v 0) (hb8 : ∀ i, i < n → ∀ z ∈ D i, (Lit.int .u8 z).wf = true) (a ra ma : Option Addr) (cap rl rc mc : Nat) (pc : Int) (X : World) (hs : ASeg X a xs) (hm : BSeg X ma n D) :
    Calls Tryz.prog 45 #[.slice a n cap, gst ra rl rc pc ma n mc, .int .i64 ad, .int .i64 size] X fun e w' => e = .returned (.int .u32 v) ∧ Below X.heap.size X w' := by
  obtain ⟨ra', hra, _, h⟩ := h
  have hn := hg.2.2.2.1
  rcases h with ⟨h, _⟩ | ⟨_, K, fr, S, bs, rfl, hin, rfl⟩
  · exact absurd rfl h
  · obtain ⟨k1, k2, k3, k4, rfl, rfl, k7, k8, k9⟩ := hin
    rcases k7 with rfl | rfl
    · exact spec_get1 a ra ma cap n rl rc n mc K fr pc bs xs D X hs hn.symm hg.1 hm rfl k1 hra k2 k3 k4 k8 k9 (hb8 K k1)
    · exact spec_get4 a ra ma cap n rl rc n mc K fr pc bs xs D X hs hn.symm hg.1 hm rfl k1 hra k2 k3 k4 k8 k9 (hb8 K k1)
theorem load_i {xs : List Wn} {rs : List Int} {n : Nat} {D : Nat → List Int} {ad size kind v : Int} (hg : GOk xs rs n D) (h : RdP xs n D ad size kind v 0) (hb8 : ∀ i, i < n → ∀ z ∈ D i, (Lit.int .u8 z).wf = true) (a ra ma : Option Addr) (cap rl rc mc : Nat) (pc : Int) (X : World) (hs : ASeg X a xs) (hf : Fit xs) (hc : n ≤ cap) (hm : BSeg X ma n D) (had : 0 ≤ ad ∧ ad < 4294967296) :
    Calls Tryz.prog 54 #[gst ra rl rc pc ma n mc, .slice a n cap, .int .u32 ad, .int .i64 size, .int .i64 kind] X fun e w' => e = .returned (.int .u32 v) ∧ Below X.heap.size X w' := by
  have hft : ∀ Y, Below X.heap.size X Y → Calls Tryz.prog 93 #[.slice a n cap, .int .u32 ad, .int .i64 size, .int .i64 kind] Y fun e w' => e = .returned (.int .i64 0) ∧ Below Y.heap.size Y w' := fun Y hY => fault_i hg h a cap Y (hs.below hY) hf hc had
  obtain ⟨ra', hra, _, h⟩ := h
  have hn := hg.2.2.2.1
  have h4 := hg.1.1
  rcases h with ⟨h, _⟩ | ⟨_, K, fr, S, bs, rfl, hin, rfl⟩
  · exact absurd rfl h
  · obtain ⟨k1, k2, k3, k4, rfl, rfl, k7, k8, k9⟩ := hin
    have hat : ∀ Y, Below X.heap.size X Y → Calls Tryz.prog 94 #[.slice a n cap, .int .i64 (bs + (fr : Int))] Y fun e w' => e = .returned (.int .i64 (K : Int)) ∧ Below Y.heap.size Y w' := fun Y hY => impl_at a cap n xs true _ _ n Y (hs.below hY) hf hn.symm (by omega) hc ⟨fun _ => hg.1, fun _ => rfl⟩ (fun h => by cases h) (fun _ => rfl) hra
    obtain ⟨b1, o1, e, hbl1, p0, p1, p2⟩ := ASeg.at hs K (by omega)
    rw [k2] at p0
    obtain ⟨b2, o2, ai, ci, e2, hbl2, c2, s2, hlc⟩ := BSeg.at' hm K k1
    obtain ⟨bi, oi, e3, hbl3, hc3⟩ := s2 (by omega)
    subst e3 e2
    have hq : ∀ j, fr + j < (D K).length → X.cell? ⟨bi, oi + fr + j, none⟩ = some (.int .u8 (bt D K (fr + j))) := fun j hj => by rw [Nat.add_assoc]; exact hc3 (fr + j) hj
    have hy : ∀ j, fr + j < (D K).length → 0 ≤ bt D K (fr + j) ∧ bt D K (fr + j) ≤ 255 := fun j hj => bounds_u8 (hb8 K k1 _ (getD_mem (D K) (fr + j) hj))
    rcases k7 with rfl | rfl
    · have := load_ok1 a ra cap n rl rc n mc K fr b2 o2 bi oi (D K).length ci pc bs kind (bt D K fr) X hft hat ⟨b1, o1, e, p0⟩ c2 k1 k1 k3 k4 k8 hlc k9 (hq 0 (by omega)) (hy 0 (by omega)).1 (hy 0 (by omega)).2
      rw [getW, if_pos rfl]
      exact this
    · have := load_ok4 a ra cap n rl rc n mc K fr b2 o2 bi oi (D K).length ci pc bs kind (bt D K fr) (bt D K (fr + 1)) (bt D K (fr + 2)) (bt D K (fr + 3)) X hft hat ⟨b1, o1, e, p0⟩ c2 k1 k1 k3 k4 k8 hlc k9 (hq 0 (by omega)) (hy 0 (by omega)).1 (hy 0 (by omega)).2 (hq 1 (by omega)) (hy 1 (by omega)).1 (hy 1 (by omega)).2 (hq 2 (by omega)) (hy 2 (by omega)).1 (hy 2 (by omega)).2 (hq 3 (by omega)) (hy 3 (by omega)).1 (hy 3 (by omega)).2
      rw [getW, if_neg (by omega)]
      exact this
end Go.Proofs.YtjlhkjiccibgdaaGreatDoor
