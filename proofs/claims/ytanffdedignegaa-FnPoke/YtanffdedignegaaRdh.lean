
/-
  Reading of a guest, by the specification and by the program: Peek and Fetch. Conditions: lengths are lengths of slices, numbers are numbers of their kinds.
-/
import Derived.Test.YtanffdedignegaaBas
import Derived.Test.YtanffdedignegaaProg
import Derived.Test.YtanffdedignegaaRdg
import Derived.Test.YtanffdedignegaaAlz
namespace Go.Proofs.Ytanffdedignegaa
open Go.ChangeShapes Go.WideShapes Go.ChangeAt Go.RowKit Go.Deep
set_option linter.unusedVariables false

/-- What the program's reading keeps in variables of its own: the guest, the windows, the access, the word. -/
structure RV (w : World) (g : Nat) (ra ma : Option Addr) (rl rc n mc : Nat) (pc : Int) (a : Option Addr) (wn cap : Nat) (ad size kind : Int) (gx : Nat) (x : Int) : Prop where
  b0 : Bk w g #[.slice ra rl rc, .int .u32 pc, .slice ma n mc]
  b1 : Bk w (g + 1) #[.slice a wn cap]
  b2 : Bk w (g + 2) #[.int .u32 ad]
  b3 : Bk w (g + 3) #[.int .i64 size]
  b4 : Bk w (g + 4) #[.int .i64 kind]
  bx : Bk w gx #[.int .u32 x]
  far : g + 4 < gx
theorem RV.below {w w' : World} {g : Nat} {ra ma : Option Addr} {rl rc n mc : Nat} {pc : Int} {a : Option Addr} {wn cap : Nat} {ad size kind : Int} {gx : Nat} {x : Int} (h : RV w g ra ma rl rc n mc pc a wn cap ad size kind gx x) (hb : Below w.heap.size w w') : RV w' g ra ma rl rc n mc pc a wn cap ad size kind gx x :=
  ⟨h.b0.below hb, h.b1.below hb, h.b2.below hb, h.b3.below hb, h.b4.below hb, h.bx.below hb, h.far⟩
set_option maxHeartbeats 2000000 in
theorem read1_ok (g gx : Nat) (ra ma a : Option Addr) (rl rc n mc wn cap : Nat) (pc ad size kind v : Int) (w : World) (h : RV w g ra ma rl rc n mc pc a wn cap ad size kind gx 0)
    (hld : Calls Try.prog 47 #[gst ra rl rc pc ma n mc, .slice a wn cap, .int .u32 ad, .int .i64 size, .int .i64 kind] w fun e w' => e = .returned (.int .u32 v) ∧ Below w.heap.size w w') :
    Calls Try.prog 46 #[.pointer (some ⟨g, 0, none⟩), .pointer (some ⟨g + 1, 0, none⟩), .pointer (some ⟨g + 2, 0, none⟩), .pointer (some ⟨g + 3, 0, none⟩), .pointer (some ⟨g + 4, 0, none⟩), .pointer (some ⟨gx, 0, none⟩)] w fun e w' => e = .returned (.tuple #[]) ∧ ∃ w2, Below w.heap.size w w2 ∧ w' = w2.setCell ⟨gx, 0, none⟩ (.int .u32 v) := by
  have HLD : Hid _ := hld
  have HV : Hid (RV w g ra ma rl rc n mc pc a wn cap ad size kind gx 0) := h
  have c0 := h.b0.cell 0 _ rfl
  have c1 := h.b0.cell 1 _ rfl
  have c2 := h.b0.cell 2 _ rfl
  have d1 := h.b1.cell 0 _ rfl
  have d2 := h.b2.cell 0 _ rfl
  have d3 := h.b3.cell 0 _ rfl
  have d4 := h.b4.cell 0 _ rfl
  clear hld h
  go_enter Try.func46, Try.ntmps46
  go_wp2_with fail
  refine Calls.mono HLD.out ?_
  rintro u w2 ⟨rfl, hb2⟩
  have hx := (HV.out.below hb2).bx
  have x0 := hx.cell 0 _ rfl
  have xf := hx.free 0
  have HB2 : Hid _ := hb2
  clear hx hb2 c0 c1 c2 d1 d2 d3 d4
  go_wp2
  go_end0
  exact ⟨rfl, w2, HB2.out, rfl⟩
set_option maxHeartbeats 2000000 in
theorem read1_bad (g gx : Nat) (ra ma a : Option Addr) (rl rc n mc wn cap : Nat) (pc ad size kind r : Int) (w : World) (h : RV w g ra ma rl rc n mc pc a wn cap ad size kind gx 0)
    (hld : Calls Try.prog 47 #[gst ra rl rc pc ma n mc, .slice a wn cap, .int .u32 ad, .int .i64 size, .int .i64 kind] w fun e w' => e = .panicked [fltP r] ∧ Below w.heap.size w w') :
    Calls Try.prog 46 #[.pointer (some ⟨g, 0, none⟩), .pointer (some ⟨g + 1, 0, none⟩), .pointer (some ⟨g + 2, 0, none⟩), .pointer (some ⟨g + 3, 0, none⟩), .pointer (some ⟨g + 4, 0, none⟩), .pointer (some ⟨gx, 0, none⟩)] w fun e w' => e = .panicked [fltP r] ∧ Below w.heap.size w w' := by
  have HLD : Hid _ := hld
  have c0 := h.b0.cell 0 _ rfl
  have c1 := h.b0.cell 1 _ rfl
  have c2 := h.b0.cell 2 _ rfl
  have d1 := h.b1.cell 0 _ rfl
  have d2 := h.b2.cell 0 _ rfl
  have d3 := h.b3.cell 0 _ rfl
  have d4 := h.b4.cell 0 _ rfl
  clear hld h
  go_enter Try.func46, Try.ntmps46
  go_wp2_with fail
  refine Calls.mono HLD.out ?_
  rintro u w2 ⟨rfl, hb2⟩
  have HB2 : Hid _ := hb2
  clear hb2
  go_wp2
  exact ⟨rfl, rfl, HB2.out⟩
/-- What the reading tells of a guest right or not. -/
def RdA (q : Bool) (xs : List Wn) (n : Nat) (D : Nat → List Int) (ad size kind v r : Int) : Prop := (q = false ∧ v = 0 ∧ r = 9) ∨ (q = true ∧ RdP xs n D ad size kind v r)
theorem RdA.ex {xs : List Wn} {rs : List Int} {n : Nat} {D : Nat → List Int} {q : Bool} (hq : q = true ↔ GOk xs rs n D) (ad size kind : Int) : ∃ v r, RdA q xs n D ad size kind v r := by
  cases q
  · exact ⟨0, 9, .inl ⟨rfl, rfl, rfl⟩⟩
  · obtain ⟨v, r, h⟩ := RdP.ex (hq.1 rfl) ad size kind
    exact ⟨v, r, .inr ⟨rfl, h⟩⟩
theorem rd_word {xs : List Wn} {n : Nat} {D : Nat → List Int} {ad size kind v r : Int} (h : RdP xs n D ad size kind v r) (hr : ¬ r = 0) : v = 0 := by
  obtain ⟨_, _, _, h⟩ := h
  rcases h with ⟨_, h⟩ | ⟨h, _⟩
  · exact h
  · exact absurd h hr
set_option maxRecDepth 20000 in
set_option maxHeartbeats 8000000 in
theorem impl_read (a ra ma : Option Addr) (cap wn rl rc n mc : Nat) (pc ad size kind v r : Int) (xs : List Wn) (rs : List Int) (D : Nat → List Int) (q : Bool) (w : World) (hs : ASeg w a xs) (hf : Fit xs) (hl : xs.length = wn) (hn : wn ≤ 9223372036854775807) (hc : wn ≤ cap) (hg : XGSeg w ra ma rs n D) (hrl : rs.length = rl) (hq : q = true ↔ GOk xs rs n D) (hrd : RdA q xs n D ad size kind v r) (hb8 : ∀ i, i < n → ∀ z ∈ D i, (Lit.int .u8 z).wf = true) (had : 0 ≤ ad ∧ ad < 4294967296) :
    Calls Try.prog 28 #[gst ra rl rc pc ma n mc, .slice a wn cap, .int .u32 ad, .int .i64 size, .int .i64 kind] w fun e w' => e = .returned (.tuple #[.int .u32 v, .int .i64 r]) ∧ Below w.heap.size w w' := by
  have hmf : ∀ (fn : Fn) (first cap : Array Value) (w : World), (Instr.makeFunc fn first cap).run Try.prog w = .ok (.func fn first cap) w := fun _ _ _ _ => rfl
  have hb0 : Below w.heap.size w (((((w.alloc (.cells #[.slice ra rl rc, .int .u32 pc, .slice ma n mc] 29)).alloc (.cells #[.slice a wn cap] 24)).alloc (.cells #[.int .u32 ad] 26)).alloc (.cells #[.int .i64 size] 3)).alloc (.cells #[.int .i64 kind] 3)) := ((((((Below.refl _ w).alloc (Nat.le_refl _) _).alloc (by simp) _).alloc (by simp; omega) _).alloc (by simp; omega) _).alloc (by simp; omega) _)
  have K0 : Bk (((((w.alloc (.cells #[.slice ra rl rc, .int .u32 pc, .slice ma n mc] 29)).alloc (.cells #[.slice a wn cap] 24)).alloc (.cells #[.int .u32 ad] 26)).alloc (.cells #[.int .i64 size] 3)).alloc (.cells #[.int .i64 kind] 3)) w.heap.size #[.slice ra rl rc, .int .u32 pc, .slice ma n mc] := ((((Bk.new w #[.slice ra rl rc, .int .u32 pc, .slice ma n mc] 29 w.heap.size rfl).alloc _).alloc _).alloc _).alloc _
  have K1 : Bk (((((w.alloc (.cells #[.slice ra rl rc, .int .u32 pc, .slice ma n mc] 29)).alloc (.cells #[.slice a wn cap] 24)).alloc (.cells #[.int .u32 ad] 26)).alloc (.cells #[.int .i64 size] 3)).alloc (.cells #[.int .i64 kind] 3)) (w.heap.size + 1) #[.slice a wn cap] := (((Bk.new (w.alloc (.cells #[.slice ra rl rc, .int .u32 pc, .slice ma n mc] 29)) #[.slice a wn cap] 24 (w.heap.size + 1) (by simp)).alloc _).alloc _).alloc _
  have K2 : Bk (((((w.alloc (.cells #[.slice ra rl rc, .int .u32 pc, .slice ma n mc] 29)).alloc (.cells #[.slice a wn cap] 24)).alloc (.cells #[.int .u32 ad] 26)).alloc (.cells #[.int .i64 size] 3)).alloc (.cells #[.int .i64 kind] 3)) (w.heap.size + 2) #[.int .u32 ad] := ((Bk.new ((w.alloc (.cells #[.slice ra rl rc, .int .u32 pc, .slice ma n mc] 29)).alloc (.cells #[.slice a wn cap] 24)) #[.int .u32 ad] 26 (w.heap.size + 2) (by simp)).alloc _).alloc _
  have K3 : Bk (((((w.alloc (.cells #[.slice ra rl rc, .int .u32 pc, .slice ma n mc] 29)).alloc (.cells #[.slice a wn cap] 24)).alloc (.cells #[.int .u32 ad] 26)).alloc (.cells #[.int .i64 size] 3)).alloc (.cells #[.int .i64 kind] 3)) (w.heap.size + 3) #[.int .i64 size] := (Bk.new (((w.alloc (.cells #[.slice ra rl rc, .int .u32 pc, .slice ma n mc] 29)).alloc (.cells #[.slice a wn cap] 24)).alloc (.cells #[.int .u32 ad] 26)) #[.int .i64 size] 3 (w.heap.size + 3) (by simp)).alloc _
  have K4 : Bk (((((w.alloc (.cells #[.slice ra rl rc, .int .u32 pc, .slice ma n mc] 29)).alloc (.cells #[.slice a wn cap] 24)).alloc (.cells #[.int .u32 ad] 26)).alloc (.cells #[.int .i64 size] 3)).alloc (.cells #[.int .i64 kind] 3)) (w.heap.size + 4) #[.int .i64 kind] := Bk.new ((((w.alloc (.cells #[.slice ra rl rc, .int .u32 pc, .slice ma n mc] 29)).alloc (.cells #[.slice a wn cap] 24)).alloc (.cells #[.int .u32 ad] 26)).alloc (.cells #[.int .i64 size] 3)) #[.int .i64 kind] 3 (w.heap.size + 4) (by simp)
  have HGK : Hid _ := impl_gok a ra ma cap wn rl rc n mc pc xs rs D q _ (hs.below hb0) hf hl hn hc (hg.below hb0) hrl hq
  have HK : Hid (Below w.heap.size w (((((w.alloc (.cells #[.slice ra rl rc, .int .u32 pc, .slice ma n mc] 29)).alloc (.cells #[.slice a wn cap] 24)).alloc (.cells #[.int .u32 ad] 26)).alloc (.cells #[.int .i64 size] 3)).alloc (.cells #[.int .i64 kind] 3)) ∧ Bk (((((w.alloc (.cells #[.slice ra rl rc, .int .u32 pc, .slice ma n mc] 29)).alloc (.cells #[.slice a wn cap] 24)).alloc (.cells #[.int .u32 ad] 26)).alloc (.cells #[.int .i64 size] 3)).alloc (.cells #[.int .i64 kind] 3)) w.heap.size #[.slice ra rl rc, .int .u32 pc, .slice ma n mc] ∧ Bk (((((w.alloc (.cells #[.slice ra rl rc, .int .u32 pc, .slice ma n mc] 29)).alloc (.cells #[.slice a wn cap] 24)).alloc (.cells #[.int .u32 ad] 26)).alloc (.cells #[.int .i64 size] 3)).alloc (.cells #[.int .i64 kind] 3)) (w.heap.size + 1) #[.slice a wn cap] ∧ Bk (((((w.alloc (.cells #[.slice ra rl rc, .int .u32 pc, .slice ma n mc] 29)).alloc (.cells #[.slice a wn cap] 24)).alloc (.cells #[.int .u32 ad] 26)).alloc (.cells #[.int .i64 size] 3)).alloc (.cells #[.int .i64 kind] 3)) (w.heap.size + 2) #[.int .u32 ad] ∧ Bk (((((w.alloc (.cells #[.slice ra rl rc, .int .u32 pc, .slice ma n mc] 29)).alloc (.cells #[.slice a wn cap] 24)).alloc (.cells #[.int .u32 ad] 26)).alloc (.cells #[.int .i64 size] 3)).alloc (.cells #[.int .i64 kind] 3)) (w.heap.size + 3) #[.int .i64 size] ∧ Bk (((((w.alloc (.cells #[.slice ra rl rc, .int .u32 pc, .slice ma n mc] 29)).alloc (.cells #[.slice a wn cap] 24)).alloc (.cells #[.int .u32 ad] 26)).alloc (.cells #[.int .i64 size] 3)).alloc (.cells #[.int .i64 kind] 3)) (w.heap.size + 4) #[.int .i64 kind]) := ⟨hb0, K0, K1, K2, K3, K4⟩
  have HS : Hid (ASeg w a xs ∧ XGSeg w ra ma rs n D ∧ xs.length = wn) := ⟨hs, hg, hl⟩
  have HF : Hid (Fit xs) := hf
  have HRD : Hid (RdA q xs n D ad size kind v r) := hrd
  have HQ : Hid _ := hq
  have HB8 : Hid (∀ i, i < n → ∀ z ∈ D i, (Lit.int .u8 z).wf = true) := hb8
  have HAD : Hid _ := had
  have c0 := K0.cell 0 _ rfl
  have c1 := K0.cell 1 _ rfl
  have c2 := K0.cell 2 _ rfl
  have d1 := K1.cell 0 _ rfl
  clear hb0 K0 K1 K2 K3 K4 hs hf hl hg hq hrd hb8 hrl had
  go_enter Try.func28, Try.ntmps28
  go_wp2_with fail
  refine Calls.mono HGK.out ?_
  rintro u w1 ⟨rfl, hb1⟩
  clear c0 c1 c2 d1 HGK
  cases q
  · have HX : Hid (v = 0 ∧ r = 9 ∧ Below w.heap.size w w1) := by
      rcases HRD.out with ⟨_, h1, h2⟩ | ⟨h, _⟩
      · exact ⟨h1, h2, HK.out.1.trans (hb1.mono HK.out.1.size)⟩
      · cases h
    clear hb1 HK
    go_wp2
    go_ret2
    exact ⟨ret_wf (by rw [HX.out.1, HX.out.2.1]), HX.out.2.2⟩
  · have HGO : Hid (GOk xs rs n D ∧ RdP xs n D ad size kind v r) := by
      refine ⟨HQ.out.1 (by trivial), ?_⟩
      rcases HRD.out with ⟨h, _⟩ | ⟨_, h⟩
      · cases h
      · exact h
    have hwn : n = wn := HGO.out.1.2.2.2.1.trans HS.out.2.2
    subst hwn
    have hal : Below w1.heap.size w1 (w1.alloc (.cells #[.int .u32 0] 26)) := (Below.refl _ _).alloc (Nat.le_refl _) _
    have hlt : w.heap.size + 4 < w1.heap.size := (HK.out.2.2.2.2.2.below hb1).lt
    have hb2 : Below w.heap.size w (w1.alloc (.cells #[.int .u32 0] 26)) := (HK.out.1.trans (hb1.mono HK.out.1.size)).trans (hal.mono (by omega))
    have hrv : RV (w1.alloc (.cells #[.int .u32 0] 26)) w.heap.size ra ma rl rc n mc pc a n cap ad size kind w1.heap.size 0 := ⟨(HK.out.2.1.below hb1).below hal, (HK.out.2.2.1.below hb1).below hal, (HK.out.2.2.2.1.below hb1).below hal, (HK.out.2.2.2.2.1.below hb1).below hal, (HK.out.2.2.2.2.2.below hb1).below hal, Bk.new w1 _ 26 w1.heap.size rfl, hlt⟩
    have hal2 : Below (w1.alloc (.cells #[.int .u32 0] 26)).heap.size (w1.alloc (.cells #[.int .u32 0] 26)) ((w1.alloc (.cells #[.int .u32 0] 26)).alloc (.cells #[.int .i64 0] 3)) := (Below.refl _ _).alloc (Nat.le_refl _) _
    have hb3 := hb2.trans (hal2.mono hb2.size)
    have hrv3 := hrv.below hal2
    have hT := Bk.new (w1.alloc (.cells #[.int .u32 0] 26)) #[.int .i64 0] 3 (w1.alloc (.cells #[.int .u32 0] 26)).heap.size rfl
    have hsz : (w1.alloc (.cells #[.int .u32 0] 26)).heap.size = w1.heap.size + 1 := by simp
    by_cases hr0 : r = 0
    · subst hr0
      have hld := load_i HGO.out.1 HGO.out.2 HB8.out a ra ma cap rl rc mc pc _ (HS.out.1.below hb3) HF.out hc (HS.out.2.1.2.below hb3) HAD.out
      have hr1 := read1_ok w.heap.size w1.heap.size ra ma a rl rc n mc n cap pc ad size kind v _ hrv3 hld
      have HCA : Hid _ := caught_read_ok _ (w1.alloc (.cells #[.int .u32 0] 26)) (fun w' => Below w.heap.size w w' ∧ Bk w' w1.heap.size #[.int .u32 v]) (hr1.mono fun e w' h => by
        obtain ⟨he, w2, hbb, rfl⟩ := h
        have h1 := hT.below hbb
        have h2 := (hrv3.below hbb).bx
        exact ⟨he, h1.other _ _ _ (by omega), (hb3.trans (hbb.mono hb3.size)).setCell (p := ⟨w1.heap.size, 0, none⟩) (by simp; omega) _, h2.set 0 _ (by simp) rfl⟩)
      clear hld hr1 hal hal2 hb2 hb3 hrv hrv3 hT hb1
      go_wp2_with fail
      refine Calls.mono HCA.out ?_
      rintro u w5 ⟨rfl, w4, ⟨hb4, hx4⟩, hbt, hs4⟩
      rw [hsz] at hbt
      have x0 := (hx4.betw hbt (.inl (by omega))).cell 0 _ rfl
      have HB5 : Hid (Below w.heap.size w w5) := hb4.trans (hbt.below (by omega) hb4.size)
      clear hb4 hx4 hbt HCA
      go_wp2
      go_ret2
      exact ⟨rfl, HB5.out⟩
    · have hv := rd_word HGO.out.2 hr0
      subst hv
      have hld := load_bad a ra ma cap n rl rc n mc pc ad size kind r _ (fun X hX => fault_i HGO.out.1 HGO.out.2 a cap X ((HS.out.1.below hb3).below hX) HF.out hc HAD.out) (beq_eq_false_iff_ne.2 hr0)
      have hr1 := read1_bad w.heap.size w1.heap.size ra ma a rl rc n mc n cap pc ad size kind r _ hrv3 hld
      have HCA : Hid _ := caught_read_bad _ r (w1.alloc (.cells #[.int .u32 0] 26)) (fun w' => Below w.heap.size w w' ∧ Bk w' w1.heap.size #[.int .u32 0]) (hr1.mono fun e w' h => by
        obtain ⟨he, hbb⟩ := h
        exact ⟨he, hT.below hbb, hb3.trans (hbb.mono hb3.size), (hrv3.below hbb).bx⟩)
      clear hld hr1 hal hal2 hb2 hb3 hrv hrv3 hT hb1
      go_wp2_with fail
      refine Calls.mono HCA.out ?_
      rintro u w5 ⟨rfl, w4, ⟨hb4, hx4⟩, hbt, hs4⟩
      rw [hsz] at hbt
      have x0 := (hx4.betw hbt (.inl (by omega))).cell 0 _ rfl
      have HB5 : Hid (Below w.heap.size w w5) := hb4.trans (hbt.below (by omega) hb4.size)
      clear hb4 hx4 hbt HCA
      go_wp2
      go_ret2
      exact ⟨rfl, HB5.out⟩
set_option maxHeartbeats 2000000 in
theorem impl_peek (a ra ma : Option Addr) (cap wn rl rc n mc : Nat) (pc ad size v r : Int) (xs : List Wn) (rs : List Int) (D : Nat → List Int) (q : Bool) (w : World) (hs : ASeg w a xs) (hf : Fit xs) (hl : xs.length = wn) (hn : wn ≤ 9223372036854775807) (hc : wn ≤ cap) (hg : XGSeg w ra ma rs n D) (hrl : rs.length = rl) (hq : q = true ↔ GOk xs rs n D) (hrd : RdA q xs n D ad size 1 v r) (hb8 : ∀ i, i < n → ∀ z ∈ D i, (Lit.int .u8 z).wf = true) (had : 0 ≤ ad ∧ ad < 4294967296) :
    Calls Try.prog 11 #[.slice a wn cap, gst ra rl rc pc ma n mc, .int .u32 ad, .int .i64 size] w fun e w' => e = .returned (.tuple #[.int .u32 v, .int .i64 r]) ∧ Below w.heap.size w w' := by
  have hbw : Below w.heap.size w (w.alloc (.cells #[.slice ra rl rc, .int .u32 pc, .slice ma n mc] 29)) := (Below.refl _ w).alloc (Nat.le_refl _) _
  have B0 := Bk.new w #[.slice ra rl rc, .int .u32 pc, .slice ma n mc] 29 w.heap.size rfl
  have HR : Hid _ := impl_read a ra ma cap wn rl rc n mc pc ad size 1 v r xs rs D q _ (hs.below hbw) hf hl hn hc (hg.below hbw) hrl hq hrd hb8 had
  have HB : Hid _ := hbw
  have c0 := B0.cell 0 _ rfl
  have c1 := B0.cell 1 _ rfl
  have c2 := B0.cell 2 _ rfl
  clear hs hf hl hg hrl hq hrd hb8 hbw B0 had
  go_enter Try.func11, Try.ntmps11
  go_wp2_with fail
  refine Calls.mono HR.out ?_
  rintro u w1 ⟨rfl, hb1⟩
  have HB1 : Hid _ := HB.out.trans (hb1.mono HB.out.size)
  clear hb1 c0 c1 c2
  go_wp2
  go_ret2
  exact ⟨rfl, HB1.out⟩
end Go.Proofs.Ytanffdedignegaa
