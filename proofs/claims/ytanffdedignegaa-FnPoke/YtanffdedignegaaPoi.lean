
/-
  Writing into a guest, by the program. Conditions: registers, rows and bytes are at most 1048576 together.
-/
import Derived.Test.YtanffdedignegaaBas
import Derived.Test.YtanffdedignegaaProg
import Derived.Test.YtanffdedignegaaPok
namespace Go.Proofs.Ytanffdedignegaa
open Go.ChangeShapes Go.WideShapes Go.ChangeAt Go.RowKit Go.Deep
set_option linter.unusedVariables false

set_option maxRecDepth 20000 in
set_option maxHeartbeats 4000000 in
theorem impl_poke_no (a ra ma : Option Addr) (cap wn rl rc n mc : Nat) (pc ad size x r : Int) (xs : List Wn) (rs : List Int) (D D1 : Nat → List Int) (w : World) (hs : ASeg w a xs) (hf : Fit xs) (hl : xs.length = wn) (hn : wn ≤ 9223372036854775807) (hc : wn ≤ cap) (hg : XGSeg w ra ma rs n D) (hrl : rs.length = rl) (hr1 : rl ≤ 1048576) (hn1 : n ≤ 1048576) (ht : btot D n ≤ 1048576) (hno : ¬ GOk xs rs n D) :
    Calls Try.prog 8 #[.slice a wn cap, gst ra rl rc pc ma n mc, .int .u32 ad, .int .i64 size, .int .u32 x] w fun e w' => e = .returned (.tuple #[gst none 0 0 0 none 0 0, .int .i64 9]) ∧ Below w.heap.size w w' := by
  have hmf : ∀ (fn : Fn) (first cap : Array Value) (w : World), (Instr.makeFunc fn first cap).run Try.prog w = .ok (.func fn first cap) w := fun _ _ _ _ => rfl
  have hbw : Below w.heap.size w ((((((w.alloc (.cells #[.slice a wn cap] 24)).alloc (.cells #[.slice ra rl rc, .int .u32 pc, .slice ma n mc] 29)).alloc (.cells #[.int .u32 ad] 26)).alloc (.cells #[.int .i64 size] 3)).alloc (.cells #[.int .u32 x] 26)).alloc (.cells #[.slice none 0 0, .int .u32 0, .slice none 0 0] 29)) := ((((((Below.refl _ w).alloc (Nat.le_refl _) _).alloc (by simp) _).alloc (by simp; omega) _).alloc (by simp; omega) _).alloc (by simp; omega) _).alloc (by simp; omega) _
  have B0 : Bk ((((((w.alloc (.cells #[.slice a wn cap] 24)).alloc (.cells #[.slice ra rl rc, .int .u32 pc, .slice ma n mc] 29)).alloc (.cells #[.int .u32 ad] 26)).alloc (.cells #[.int .i64 size] 3)).alloc (.cells #[.int .u32 x] 26)).alloc (.cells #[.slice none 0 0, .int .u32 0, .slice none 0 0] 29)) w.heap.size #[.slice a wn cap] := (((((Bk.new w #[.slice a wn cap] 24 w.heap.size rfl).alloc _).alloc _).alloc _).alloc _).alloc _
  have B1 : Bk ((((((w.alloc (.cells #[.slice a wn cap] 24)).alloc (.cells #[.slice ra rl rc, .int .u32 pc, .slice ma n mc] 29)).alloc (.cells #[.int .u32 ad] 26)).alloc (.cells #[.int .i64 size] 3)).alloc (.cells #[.int .u32 x] 26)).alloc (.cells #[.slice none 0 0, .int .u32 0, .slice none 0 0] 29)) (w.heap.size + 1) #[.slice ra rl rc, .int .u32 pc, .slice ma n mc] := ((((Bk.new (w.alloc (.cells #[.slice a wn cap] 24)) #[.slice ra rl rc, .int .u32 pc, .slice ma n mc] 29 (w.heap.size + 1) (by simp)).alloc _).alloc _).alloc _).alloc _
  have B2 : Bk ((((((w.alloc (.cells #[.slice a wn cap] 24)).alloc (.cells #[.slice ra rl rc, .int .u32 pc, .slice ma n mc] 29)).alloc (.cells #[.int .u32 ad] 26)).alloc (.cells #[.int .i64 size] 3)).alloc (.cells #[.int .u32 x] 26)).alloc (.cells #[.slice none 0 0, .int .u32 0, .slice none 0 0] 29)) (w.heap.size + 2) #[.int .u32 ad] := (((Bk.new ((w.alloc (.cells #[.slice a wn cap] 24)).alloc (.cells #[.slice ra rl rc, .int .u32 pc, .slice ma n mc] 29)) #[.int .u32 ad] 26 (w.heap.size + 2) (by simp)).alloc _).alloc _).alloc _
  have B3 : Bk ((((((w.alloc (.cells #[.slice a wn cap] 24)).alloc (.cells #[.slice ra rl rc, .int .u32 pc, .slice ma n mc] 29)).alloc (.cells #[.int .u32 ad] 26)).alloc (.cells #[.int .i64 size] 3)).alloc (.cells #[.int .u32 x] 26)).alloc (.cells #[.slice none 0 0, .int .u32 0, .slice none 0 0] 29)) (w.heap.size + 3) #[.int .i64 size] := ((Bk.new (((w.alloc (.cells #[.slice a wn cap] 24)).alloc (.cells #[.slice ra rl rc, .int .u32 pc, .slice ma n mc] 29)).alloc (.cells #[.int .u32 ad] 26)) #[.int .i64 size] 3 (w.heap.size + 3) (by simp)).alloc _).alloc _
  have B4 : Bk ((((((w.alloc (.cells #[.slice a wn cap] 24)).alloc (.cells #[.slice ra rl rc, .int .u32 pc, .slice ma n mc] 29)).alloc (.cells #[.int .u32 ad] 26)).alloc (.cells #[.int .i64 size] 3)).alloc (.cells #[.int .u32 x] 26)).alloc (.cells #[.slice none 0 0, .int .u32 0, .slice none 0 0] 29)) (w.heap.size + 4) #[.int .u32 x] := (Bk.new ((((w.alloc (.cells #[.slice a wn cap] 24)).alloc (.cells #[.slice ra rl rc, .int .u32 pc, .slice ma n mc] 29)).alloc (.cells #[.int .u32 ad] 26)).alloc (.cells #[.int .i64 size] 3)) #[.int .u32 x] 26 (w.heap.size + 4) (by simp)).alloc _
  have B5 : Bk ((((((w.alloc (.cells #[.slice a wn cap] 24)).alloc (.cells #[.slice ra rl rc, .int .u32 pc, .slice ma n mc] 29)).alloc (.cells #[.int .u32 ad] 26)).alloc (.cells #[.int .i64 size] 3)).alloc (.cells #[.int .u32 x] 26)).alloc (.cells #[.slice none 0 0, .int .u32 0, .slice none 0 0] 29)) (w.heap.size + 5) #[.slice none 0 0, .int .u32 0, .slice none 0 0] := Bk.new (((((w.alloc (.cells #[.slice a wn cap] 24)).alloc (.cells #[.slice ra rl rc, .int .u32 pc, .slice ma n mc] 29)).alloc (.cells #[.int .u32 ad] 26)).alloc (.cells #[.int .i64 size] 3)).alloc (.cells #[.int .u32 x] 26)) #[.slice none 0 0, .int .u32 0, .slice none 0 0] 29 (w.heap.size + 5) (by simp)
  have HK : Hid (Bk ((((((w.alloc (.cells #[.slice a wn cap] 24)).alloc (.cells #[.slice ra rl rc, .int .u32 pc, .slice ma n mc] 29)).alloc (.cells #[.int .u32 ad] 26)).alloc (.cells #[.int .i64 size] 3)).alloc (.cells #[.int .u32 x] 26)).alloc (.cells #[.slice none 0 0, .int .u32 0, .slice none 0 0] 29)) w.heap.size #[.slice a wn cap] ∧ Bk ((((((w.alloc (.cells #[.slice a wn cap] 24)).alloc (.cells #[.slice ra rl rc, .int .u32 pc, .slice ma n mc] 29)).alloc (.cells #[.int .u32 ad] 26)).alloc (.cells #[.int .i64 size] 3)).alloc (.cells #[.int .u32 x] 26)).alloc (.cells #[.slice none 0 0, .int .u32 0, .slice none 0 0] 29)) (w.heap.size + 1) #[.slice ra rl rc, .int .u32 pc, .slice ma n mc] ∧ Bk ((((((w.alloc (.cells #[.slice a wn cap] 24)).alloc (.cells #[.slice ra rl rc, .int .u32 pc, .slice ma n mc] 29)).alloc (.cells #[.int .u32 ad] 26)).alloc (.cells #[.int .i64 size] 3)).alloc (.cells #[.int .u32 x] 26)).alloc (.cells #[.slice none 0 0, .int .u32 0, .slice none 0 0] 29)) (w.heap.size + 2) #[.int .u32 ad] ∧ Bk ((((((w.alloc (.cells #[.slice a wn cap] 24)).alloc (.cells #[.slice ra rl rc, .int .u32 pc, .slice ma n mc] 29)).alloc (.cells #[.int .u32 ad] 26)).alloc (.cells #[.int .i64 size] 3)).alloc (.cells #[.int .u32 x] 26)).alloc (.cells #[.slice none 0 0, .int .u32 0, .slice none 0 0] 29)) (w.heap.size + 3) #[.int .i64 size] ∧ Bk ((((((w.alloc (.cells #[.slice a wn cap] 24)).alloc (.cells #[.slice ra rl rc, .int .u32 pc, .slice ma n mc] 29)).alloc (.cells #[.int .u32 ad] 26)).alloc (.cells #[.int .i64 size] 3)).alloc (.cells #[.int .u32 x] 26)).alloc (.cells #[.slice none 0 0, .int .u32 0, .slice none 0 0] 29)) (w.heap.size + 4) #[.int .u32 x] ∧ Bk ((((((w.alloc (.cells #[.slice a wn cap] 24)).alloc (.cells #[.slice ra rl rc, .int .u32 pc, .slice ma n mc] 29)).alloc (.cells #[.int .u32 ad] 26)).alloc (.cells #[.int .i64 size] 3)).alloc (.cells #[.int .u32 x] 26)).alloc (.cells #[.slice none 0 0, .int .u32 0, .slice none 0 0] 29)) (w.heap.size + 5) #[.slice none 0 0, .int .u32 0, .slice none 0 0]) := ⟨B0, B1, B2, B3, B4, B5⟩
  have HB : Hid (Below w.heap.size w ((((((w.alloc (.cells #[.slice a wn cap] 24)).alloc (.cells #[.slice ra rl rc, .int .u32 pc, .slice ma n mc] 29)).alloc (.cells #[.int .u32 ad] 26)).alloc (.cells #[.int .i64 size] 3)).alloc (.cells #[.int .u32 x] 26)).alloc (.cells #[.slice none 0 0, .int .u32 0, .slice none 0 0] 29))) := hbw
  have c0 := B1.cell 0 _ rfl
  have c1 := B1.cell 1 _ rfl
  have c2 := B1.cell 2 _ rfl
  have a0 := B0.cell 0 _ rfl
  have HGK : Hid _ := impl_gok a ra ma cap wn rl rc n mc pc xs rs D false _ (hs.below hbw) hf hl hn hc (hg.below hbw) hrl ⟨fun h => (by cases h), fun h => absurd h hno⟩
  clear hs hf hl hg hrl hno hbw B0 B1 B2 B3 B4 B5
  go_enter Try.func8, Try.ntmps8
  go_wp2_with fail
  refine Calls.mono HGK.out ?_
  rintro u w1 ⟨rfl, hb1⟩
  have HBW : Hid (Below w.heap.size w w1) := HB.out.trans (hb1.mono HB.out.size)
  have K1 := HK.out.2.2.2.2.2.below hb1
  have d0 := K1.cell 0 _ rfl
  have d1 := K1.cell 1 _ rfl
  have d2 := K1.cell 2 _ rfl
  have df := K1.free
  clear K1 hb1 c0 c1 c2 a0
  go_wp2
  refine bodyPost_ret (v := .tuple #[gst none 0 0 0 none 0 0, .int .i64 9]) (by simp [results, Try.results8, go_sem, d0, d1, d2]) rfl ⟨rfl, ?_⟩
  first | exact HBW.out | exact ((HBW.out.setCell (p := ⟨w.heap.size + 5, 0, none⟩) (by simp) _).setCell (p := ⟨w.heap.size + 5, 1, none⟩) (by simp) _).setCell (p := ⟨w.heap.size + 5, 2, none⟩) (by simp) _
set_option maxRecDepth 20000 in
set_option maxHeartbeats 8000000 in
theorem impl_poke (a ra ma : Option Addr) (cap wn rl rc n mc : Nat) (pc ad size x r : Int) (xs : List Wn) (rs : List Int) (D D1 : Nat → List Int) (w : World) (hs : ASeg w a xs) (hf : Fit xs) (hl : xs.length = wn) (hn : wn ≤ 9223372036854775807) (hc : wn ≤ cap) (hg : XGSeg w ra ma rs n D) (hrl : rs.length = rl) (hr1 : rl ≤ 1048576) (hn1 : n ≤ 1048576) (ht : btot D n ≤ 1048576) (hgo : GOk xs rs n D) (hpk : PkP xs n D ad size x r D1) (had : 0 ≤ ad ∧ ad < 4294967296) (hx0 : 0 ≤ x) (hx1 : x ≤ 4294967295) :
    Calls Try.prog 8 #[.slice a wn cap, gst ra rl rc pc ma n mc, .int .u32 ad, .int .i64 size, .int .u32 x] w (QAns w rs rl pc n D1 r) := by
  have hwn : n = wn := hgo.2.2.2.1.trans hl
  subst hwn
  have hmf : ∀ (fn : Fn) (first cap : Array Value) (w : World), (Instr.makeFunc fn first cap).run Try.prog w = .ok (.func fn first cap) w := fun _ _ _ _ => rfl
  have hbw : Below w.heap.size w ((((((w.alloc (.cells #[.slice a n cap] 24)).alloc (.cells #[.slice ra rl rc, .int .u32 pc, .slice ma n mc] 29)).alloc (.cells #[.int .u32 ad] 26)).alloc (.cells #[.int .i64 size] 3)).alloc (.cells #[.int .u32 x] 26)).alloc (.cells #[.slice none 0 0, .int .u32 0, .slice none 0 0] 29)) := ((((((Below.refl _ w).alloc (Nat.le_refl _) _).alloc (by simp) _).alloc (by simp; omega) _).alloc (by simp; omega) _).alloc (by simp; omega) _).alloc (by simp; omega) _
  have B0 : Bk ((((((w.alloc (.cells #[.slice a n cap] 24)).alloc (.cells #[.slice ra rl rc, .int .u32 pc, .slice ma n mc] 29)).alloc (.cells #[.int .u32 ad] 26)).alloc (.cells #[.int .i64 size] 3)).alloc (.cells #[.int .u32 x] 26)).alloc (.cells #[.slice none 0 0, .int .u32 0, .slice none 0 0] 29)) w.heap.size #[.slice a n cap] := (((((Bk.new w #[.slice a n cap] 24 w.heap.size rfl).alloc _).alloc _).alloc _).alloc _).alloc _
  have B1 : Bk ((((((w.alloc (.cells #[.slice a n cap] 24)).alloc (.cells #[.slice ra rl rc, .int .u32 pc, .slice ma n mc] 29)).alloc (.cells #[.int .u32 ad] 26)).alloc (.cells #[.int .i64 size] 3)).alloc (.cells #[.int .u32 x] 26)).alloc (.cells #[.slice none 0 0, .int .u32 0, .slice none 0 0] 29)) (w.heap.size + 1) #[.slice ra rl rc, .int .u32 pc, .slice ma n mc] := ((((Bk.new (w.alloc (.cells #[.slice a n cap] 24)) #[.slice ra rl rc, .int .u32 pc, .slice ma n mc] 29 (w.heap.size + 1) (by simp)).alloc _).alloc _).alloc _).alloc _
  have B2 : Bk ((((((w.alloc (.cells #[.slice a n cap] 24)).alloc (.cells #[.slice ra rl rc, .int .u32 pc, .slice ma n mc] 29)).alloc (.cells #[.int .u32 ad] 26)).alloc (.cells #[.int .i64 size] 3)).alloc (.cells #[.int .u32 x] 26)).alloc (.cells #[.slice none 0 0, .int .u32 0, .slice none 0 0] 29)) (w.heap.size + 2) #[.int .u32 ad] := (((Bk.new ((w.alloc (.cells #[.slice a n cap] 24)).alloc (.cells #[.slice ra rl rc, .int .u32 pc, .slice ma n mc] 29)) #[.int .u32 ad] 26 (w.heap.size + 2) (by simp)).alloc _).alloc _).alloc _
  have B3 : Bk ((((((w.alloc (.cells #[.slice a n cap] 24)).alloc (.cells #[.slice ra rl rc, .int .u32 pc, .slice ma n mc] 29)).alloc (.cells #[.int .u32 ad] 26)).alloc (.cells #[.int .i64 size] 3)).alloc (.cells #[.int .u32 x] 26)).alloc (.cells #[.slice none 0 0, .int .u32 0, .slice none 0 0] 29)) (w.heap.size + 3) #[.int .i64 size] := ((Bk.new (((w.alloc (.cells #[.slice a n cap] 24)).alloc (.cells #[.slice ra rl rc, .int .u32 pc, .slice ma n mc] 29)).alloc (.cells #[.int .u32 ad] 26)) #[.int .i64 size] 3 (w.heap.size + 3) (by simp)).alloc _).alloc _
  have B4 : Bk ((((((w.alloc (.cells #[.slice a n cap] 24)).alloc (.cells #[.slice ra rl rc, .int .u32 pc, .slice ma n mc] 29)).alloc (.cells #[.int .u32 ad] 26)).alloc (.cells #[.int .i64 size] 3)).alloc (.cells #[.int .u32 x] 26)).alloc (.cells #[.slice none 0 0, .int .u32 0, .slice none 0 0] 29)) (w.heap.size + 4) #[.int .u32 x] := (Bk.new ((((w.alloc (.cells #[.slice a n cap] 24)).alloc (.cells #[.slice ra rl rc, .int .u32 pc, .slice ma n mc] 29)).alloc (.cells #[.int .u32 ad] 26)).alloc (.cells #[.int .i64 size] 3)) #[.int .u32 x] 26 (w.heap.size + 4) (by simp)).alloc _
  have B5 : Bk ((((((w.alloc (.cells #[.slice a n cap] 24)).alloc (.cells #[.slice ra rl rc, .int .u32 pc, .slice ma n mc] 29)).alloc (.cells #[.int .u32 ad] 26)).alloc (.cells #[.int .i64 size] 3)).alloc (.cells #[.int .u32 x] 26)).alloc (.cells #[.slice none 0 0, .int .u32 0, .slice none 0 0] 29)) (w.heap.size + 5) #[.slice none 0 0, .int .u32 0, .slice none 0 0] := Bk.new (((((w.alloc (.cells #[.slice a n cap] 24)).alloc (.cells #[.slice ra rl rc, .int .u32 pc, .slice ma n mc] 29)).alloc (.cells #[.int .u32 ad] 26)).alloc (.cells #[.int .i64 size] 3)).alloc (.cells #[.int .u32 x] 26)) #[.slice none 0 0, .int .u32 0, .slice none 0 0] 29 (w.heap.size + 5) (by simp)
  have HK : Hid (Bk ((((((w.alloc (.cells #[.slice a n cap] 24)).alloc (.cells #[.slice ra rl rc, .int .u32 pc, .slice ma n mc] 29)).alloc (.cells #[.int .u32 ad] 26)).alloc (.cells #[.int .i64 size] 3)).alloc (.cells #[.int .u32 x] 26)).alloc (.cells #[.slice none 0 0, .int .u32 0, .slice none 0 0] 29)) w.heap.size #[.slice a n cap] ∧ Bk ((((((w.alloc (.cells #[.slice a n cap] 24)).alloc (.cells #[.slice ra rl rc, .int .u32 pc, .slice ma n mc] 29)).alloc (.cells #[.int .u32 ad] 26)).alloc (.cells #[.int .i64 size] 3)).alloc (.cells #[.int .u32 x] 26)).alloc (.cells #[.slice none 0 0, .int .u32 0, .slice none 0 0] 29)) (w.heap.size + 1) #[.slice ra rl rc, .int .u32 pc, .slice ma n mc] ∧ Bk ((((((w.alloc (.cells #[.slice a n cap] 24)).alloc (.cells #[.slice ra rl rc, .int .u32 pc, .slice ma n mc] 29)).alloc (.cells #[.int .u32 ad] 26)).alloc (.cells #[.int .i64 size] 3)).alloc (.cells #[.int .u32 x] 26)).alloc (.cells #[.slice none 0 0, .int .u32 0, .slice none 0 0] 29)) (w.heap.size + 2) #[.int .u32 ad] ∧ Bk ((((((w.alloc (.cells #[.slice a n cap] 24)).alloc (.cells #[.slice ra rl rc, .int .u32 pc, .slice ma n mc] 29)).alloc (.cells #[.int .u32 ad] 26)).alloc (.cells #[.int .i64 size] 3)).alloc (.cells #[.int .u32 x] 26)).alloc (.cells #[.slice none 0 0, .int .u32 0, .slice none 0 0] 29)) (w.heap.size + 3) #[.int .i64 size] ∧ Bk ((((((w.alloc (.cells #[.slice a n cap] 24)).alloc (.cells #[.slice ra rl rc, .int .u32 pc, .slice ma n mc] 29)).alloc (.cells #[.int .u32 ad] 26)).alloc (.cells #[.int .i64 size] 3)).alloc (.cells #[.int .u32 x] 26)).alloc (.cells #[.slice none 0 0, .int .u32 0, .slice none 0 0] 29)) (w.heap.size + 4) #[.int .u32 x] ∧ Bk ((((((w.alloc (.cells #[.slice a n cap] 24)).alloc (.cells #[.slice ra rl rc, .int .u32 pc, .slice ma n mc] 29)).alloc (.cells #[.int .u32 ad] 26)).alloc (.cells #[.int .i64 size] 3)).alloc (.cells #[.int .u32 x] 26)).alloc (.cells #[.slice none 0 0, .int .u32 0, .slice none 0 0] 29)) (w.heap.size + 5) #[.slice none 0 0, .int .u32 0, .slice none 0 0]) := ⟨B0, B1, B2, B3, B4, B5⟩
  have HB : Hid (Below w.heap.size w ((((((w.alloc (.cells #[.slice a n cap] 24)).alloc (.cells #[.slice ra rl rc, .int .u32 pc, .slice ma n mc] 29)).alloc (.cells #[.int .u32 ad] 26)).alloc (.cells #[.int .i64 size] 3)).alloc (.cells #[.int .u32 x] 26)).alloc (.cells #[.slice none 0 0, .int .u32 0, .slice none 0 0] 29))) := hbw
  have c0 := B1.cell 0 _ rfl
  have c1 := B1.cell 1 _ rfl
  have c2 := B1.cell 2 _ rfl
  have a0 := B0.cell 0 _ rfl
  have HGK : Hid _ := impl_gok a ra ma cap n rl rc n mc pc xs rs D true _ (hs.below hbw) hf hl hn hc (hg.below hbw) hrl ⟨fun _ => hgo, fun _ => rfl⟩
  have HS : Hid (ASeg w a xs ∧ XGSeg w ra ma rs n D ∧ rs.length = rl ∧ btot D n ≤ 1048576 ∧ xs.length = n) := ⟨hs, hg, hrl, ht, hl⟩
  have HF : Hid (Fit xs) := hf
  have HGO : Hid (GOk xs rs n D ∧ PkP xs n D ad size x r D1) := ⟨hgo, hpk⟩
  have HAD : Hid _ := had
  have HH4 : Hid (n ≤ 4) := by have := hgo.1.1; have := hgo.2.2.2.1; show _ ≤ _; omega
  clear hs hf hl hg hrl hgo hpk had hbw B0 B1 B2 B3 B4 B5 ht
  go_enter Try.func8, Try.ntmps8
  go_wp2_with fail
  refine Calls.mono HGK.out ?_
  rintro u w1 ⟨rfl, hb1⟩
  have HB1 : Hid (Below w.heap.size w w1) := HB.out.trans (hb1.mono HB.out.size)
  have HK1 : Hid (Bk w1 w.heap.size #[.slice a n cap] ∧ Bk w1 (w.heap.size + 1) #[.slice ra rl rc, .int .u32 pc, .slice ma n mc] ∧ Bk w1 (w.heap.size + 2) #[.int .u32 ad] ∧ Bk w1 (w.heap.size + 3) #[.int .i64 size] ∧ Bk w1 (w.heap.size + 4) #[.int .u32 x] ∧ Bk w1 (w.heap.size + 5) #[.slice none 0 0, .int .u32 0, .slice none 0 0]) := ⟨HK.out.1.below hb1, HK.out.2.1.below hb1, HK.out.2.2.1.below hb1, HK.out.2.2.2.1.below hb1, HK.out.2.2.2.2.1.below hb1, HK.out.2.2.2.2.2.below hb1⟩
  clear c0 c1 c2 a0 hb1 HK HB HGK
  have c0 := HK1.out.2.1.cell 0 _ rfl
  have c1 := HK1.out.2.1.cell 1 _ rfl
  have c2 := HK1.out.2.1.cell 2 _ rfl
  go_wp2_with fail
  refine Calls.mono (impl_copied pc ra ma rl rc n mc rs D w1 (HS.out.2.1.below HB1.out) HS.out.2.2.1 hr1 hn1 HS.out.2.2.2.1) ?_
  rintro u w2 ⟨ra2, ma2, rc2, mc2, m2, rfl, hb2, ho2, hm21, hm22⟩
  have hal : Below w2.heap.size w2 (w2.alloc (.cells #[.slice ra2 rl rc2, .int .u32 pc, .slice ma2 n mc2] 29)) := (Below.refl _ _).alloc (Nat.le_refl _) _
  have hb2' := hb2.trans (hal.mono hb2.size)
  have hbX : Below w.heap.size w (w2.alloc (.cells #[.slice ra2 rl rc2, .int .u32 pc, .slice ma2 n mc2] 29)) := HB1.out.trans (hb2'.mono HB1.out.size)
  have hz1 : w.heap.size + 5 < w1.heap.size := HK1.out.2.2.2.2.2.lt
  have hz2 : w1.heap.size ≤ w2.heap.size := hb2.size
  have hsz : (w2.alloc (.cells #[.slice ra2 rl rc2, .int .u32 pc, .slice ma2 n mc2] 29)).heap.size = w2.heap.size + 1 := by simp
  have halT : Below (w2.alloc (.cells #[.slice ra2 rl rc2, .int .u32 pc, .slice ma2 n mc2] 29)).heap.size (w2.alloc (.cells #[.slice ra2 rl rc2, .int .u32 pc, .slice ma2 n mc2] 29)) ((w2.alloc (.cells #[.slice ra2 rl rc2, .int .u32 pc, .slice ma2 n mc2] 29)).alloc (.cells #[.int .i64 0] 3)) := (Below.refl _ _).alloc (Nat.le_refl _) _
  have hbY := hbX.trans (halT.mono hbX.size)
  have hT := Bk.new (w2.alloc (.cells #[.slice ra2 rl rc2, .int .u32 pc, .slice ma2 n mc2] 29)) #[.int .i64 0] 3 (w2.alloc (.cells #[.slice ra2 rl rc2, .int .u32 pc, .slice ma2 n mc2] 29)).heap.size rfl
  have hoY := (ho2.below hal).below halT
  have hall := hb2'.trans (halT.mono hb2'.size)
  have hpv : PV ((w2.alloc (.cells #[.slice ra2 rl rc2, .int .u32 pc, .slice ma2 n mc2] 29)).alloc (.cells #[.int .i64 0] 3)) w2.heap.size w.heap.size ra2 ma2 rl rc2 n mc2 pc a n cap ad size x := ⟨(Bk.new w2 _ 29 w2.heap.size rfl).below halT, HK1.out.1.below hall, HK1.out.2.2.1.below hall, HK1.out.2.2.2.1.below hall, HK1.out.2.2.2.2.1.below hall⟩
  have hv0 := (Bk.new w2 #[.slice ra2 rl rc2, .int .u32 pc, .slice ma2 n mc2] 29 w2.heap.size rfl).below halT
  have hzz := HK1.out.2.2.2.2.2.below hall
  obtain ⟨v, hrd, hcase⟩ := HGO.out.2
  by_cases hr0 : r = 0
  · subst hr0
    have hin : ∃ K fr S bs, AtP xs n ad ((K : Nat) : Int) ∧ AccIn xs n D ad size K fr S bs ∧ D1 = putD D K fr S x := by
      rcases hcase with ⟨h, _⟩ | ⟨_, h⟩
      · exact absurd rfl h
      · exact h
    obtain ⟨K, fr, S, bs, hatp, hacc, hD1⟩ := hin
    obtain ⟨k1, k2, k3, k4, rfl, rfl, k7, k8, k9⟩ := hacc
    obtain ⟨⟨R, hR⟩, hm⟩ := hoY
    obtain ⟨b2, o2, bi, oi, ci, rfl, e2, hlc, hne, hlo, hhi, hbiw, hon, hput⟩ := brows_row hm K k1 (by omega)
    obtain ⟨b1, o1, rfl, hbl1, p0⟩ := seg_lt2 HS.out.1 (K := K) (by rw [HS.out.2.2.2.2]; exact k1)
    rw [k2] at p0
    have hst := store_ok (some ⟨b1, o1, none⟩) ra2 cap n rl rc2 n mc2 K fr S b2 o2 bi oi (D K).length ci m2 w2.heap.size pc bs x (D K) ((w2.alloc (.cells #[.slice ra2 rl rc2, .int .u32 pc, .slice (some ⟨b2, o2, none⟩) n mc2] 29)).alloc (.cells #[.int .i64 0] 3)) hx0 hx1 (fun Y hY => by
      have hYw := hbY.trans (hY.mono hbY.size)
      exact reach_ok _ ra2 cap n rl rc2 n mc2 K fr S b2 o2 bi oi (D K).length ci pc bs 2 Y (fun Z hZ => fault_i HGO.out.1 hrd _ cap Z (HS.out.1.below (hYw.trans (hZ.mono hYw.size))) HF.out hc HAD.out) (fun Z hZ => impl_at _ cap n xs true _ _ n Z (HS.out.1.below (hYw.trans (hZ.mono hYw.size))) HF.out HS.out.2.2.2.2 hn hc ⟨fun _ => HGO.out.1.1, fun _ => rfl⟩ (fun h => (by cases h)) (fun _ => rfl) hatp) ⟨b1, o1, rfl, kept_cell hYw p0⟩ (kept_cell hY e2) k1 k1 k3 k4 k8 hlc k9 (by omega)) hon rfl k7 k8
    have hp1 := poke1 w2.heap.size w.heap.size ra2 (some ⟨b2, o2, none⟩) (some ⟨b1, o1, none⟩) rl rc2 n mc2 n cap pc _ _ x _ _ hpv (fun v w' h => ⟨rfl, h.2⟩) (fun w' h => by cases h.1) hst
    have HCA : Hid _ := caught_poke_ok _ (w2.alloc (.cells #[.slice ra2 rl rc2, .int .u32 pc, .slice (some ⟨b2, o2, none⟩) n mc2] 29)) (fun w' => Below w.heap.size w w' ∧ OGst w' w1.heap.size m2 w2.heap.size ra2 (some ⟨b2, o2, none⟩) rs n D1 ∧ Bk w' w2.heap.size #[.slice ra2 rl rc2, .int .u32 pc, .slice (some ⟨b2, o2, none⟩) n mc2] ∧ Bk w' (w.heap.size + 5) #[.slice none 0 0, .int .u32 0, .slice none 0 0]) (hp1.mono fun e w' h => by
      obtain ⟨he, hbt, hon'⟩ := h
      rw [hD1]
      exact ⟨he, hT.betw hbt (.inr (by omega)), hbY.trans (hbt.below (by omega) hbY.size), ⟨⟨R, hR.betw hbt (fun h0 => by have := hR.range h0; omega)⟩, hput w' _ (putRow_len _ _ _ _) hbt hon'⟩, hv0.betw hbt (.inr (by omega)), hzz.betw hbt (.inl (by omega))⟩)
    clear hst hp1 hT hpv hv0 hzz hbY hbX hall halT hal hb2 hb2' ho2 hR hm e2 hon hput p0 hatp k2 hcase hrd hD1 c0 c1 c2 HK1
    · go_wp2_with fail
      refine Calls.mono HCA.out ?_
      rintro u w5 ⟨rfl, w4, ⟨hb4, ho4, hv4, hz4⟩, hbt, hs4⟩
      rw [hsz] at hbt
      have V5 := hv4.betw hbt (.inl (by omega))
      have K5 := hz4.betw hbt (.inl (by omega))
      have ho5 := ho4.betw hbt (.inl (by omega)) hm21 hm22
      have hb5 := hb4.trans (hbt.below (by omega) hb4.size)
      have hsz5 : w2.heap.size ≤ w5.heap.size := by have := hbt.size; have := hv4.lt; omega
      have HZ : Hid (OGst w5 w1.heap.size m2 w2.heap.size ra2 (some ⟨b2, o2, none⟩) rs n D1 ∧ Below w.heap.size w w5) := ⟨ho5, hb5⟩
      have p0 := V5.cell 0 _ rfl
      have p1 := V5.cell 1 _ rfl
      have p2 := V5.cell 2 _ rfl
      have d0 := K5.cell 0 _ rfl
      have d1 := (K5.set 0 (.slice ra2 rl rc2) (by simp) rfl).cell 1 _ rfl
      have d2 := ((K5.set 0 (.slice ra2 rl rc2) (by simp) rfl).set 1 (.int .u32 pc) (by simp) rfl).cell 2 _ rfl
      have df := K5.free
      have G2 := ((K5.set 0 (.slice ra2 rl rc2) (by simp) rfl).set 1 (.int .u32 pc) (by simp) rfl).set 2 (.slice (some ⟨b2, o2, none⟩) n mc2) (by simp) rfl
      have n0 := G2.cell 0 _ rfl
      have n1 := G2.cell 1 _ rfl
      have n2 := G2.cell 2 _ rfl
      clear V5 K5 ho5 hb5 G2 hb4 ho4 hv4 hz4 hbt HCA
      go_wp2
      refine bodyPost_ret (v := .tuple #[gst ra2 rl rc2 pc (some ⟨b2, o2, none⟩) n mc2, .int .i64 0]) (by simp [results, Try.results8, go_sem, n0, n1, n2]) rfl ⟨_, _, _, _, m2, rfl, ((HZ.out.2.setCell (p := ⟨w.heap.size + 5, 0, none⟩) (by simp) _).setCell (p := ⟨w.heap.size + 5, 1, none⟩) (by simp) _).setCell (p := ⟨w.heap.size + 5, 2, none⟩) (by simp) _, ?_, by omega, by simp; omega⟩
      have hbtt := (((Betw.refl (w.heap.size + 5) (w.heap.size + 5 + 1) w5).setCell (p := ⟨w.heap.size + 5, 0, none⟩) (by simp) (by simp) (.slice ra2 rl rc2)).setCell (p := ⟨w.heap.size + 5, 1, none⟩) (by simp) (by simp) (.int .u32 pc)).setCell (p := ⟨w.heap.size + 5, 2, none⟩) (by simp) (by simp) (.slice (some ⟨b2, o2, none⟩) n mc2)
      exact (OGst.betw HZ.out.1 hbtt (.inr (by omega)) hm21 hm22).wide (by omega) (by simp; omega)
  · have hD1 : D1 = D := by
      rcases hcase with ⟨_, h⟩ | ⟨h, _⟩
      · exact h
      · exact absurd h hr0
    subst hD1
    have hst := store_bad a ra2 ma2 cap n rl rc2 n mc2 pc ad size x r ((w2.alloc (.cells #[.slice ra2 rl rc2, .int .u32 pc, .slice ma2 n mc2] 29)).alloc (.cells #[.int .i64 0] 3)) (fun Y hY => fault_i HGO.out.1 hrd a cap Y (HS.out.1.below (hbY.trans (hY.mono hbY.size))) HF.out hc HAD.out) (beq_eq_false_iff_ne.2 hr0)
    have hp1 := poke1 w2.heap.size w.heap.size ra2 ma2 a rl rc2 n mc2 n cap pc _ _ x _ _ hpv (fun v w' h => by cases h.1) (fun w' h => by cases h.1) hst
    have HCA : Hid _ := caught_poke_bad _ r (w2.alloc (.cells #[.slice ra2 rl rc2, .int .u32 pc, .slice ma2 n mc2] 29)) (fun w' => Below w.heap.size w w' ∧ OGst w' w1.heap.size m2 w2.heap.size ra2 ma2 rs n D1 ∧ Bk w' w2.heap.size #[.slice ra2 rl rc2, .int .u32 pc, .slice ma2 n mc2] ∧ Bk w' (w.heap.size + 5) #[.slice none 0 0, .int .u32 0, .slice none 0 0]) (hp1.mono fun e w' h => by
      obtain ⟨he, hbb⟩ := h
      exact ⟨he, hT.below hbb, hbY.trans (hbb.mono hbY.size), hoY.below hbb, hv0.below hbb, hzz.below hbb⟩)
    clear hst hp1 hT hoY hpv hv0 hzz hbY hbX hall halT hal hb2 hb2' ho2 hcase hrd c0 c1 c2 HK1
    · go_wp2_with fail
      refine Calls.mono HCA.out ?_
      rintro u w5 ⟨rfl, w4, ⟨hb4, ho4, hv4, hz4⟩, hbt, hs4⟩
      rw [hsz] at hbt
      have V5 := hv4.betw hbt (.inl (by omega))
      have K5 := hz4.betw hbt (.inl (by omega))
      have ho5 := ho4.betw hbt (.inl (by omega)) hm21 hm22
      have hb5 := hb4.trans (hbt.below (by omega) hb4.size)
      have hsz5 : w2.heap.size ≤ w5.heap.size := by have := hbt.size; have := hv4.lt; omega
      have HZ : Hid (OGst w5 w1.heap.size m2 w2.heap.size ra2 ma2 rs n D1 ∧ Below w.heap.size w w5) := ⟨ho5, hb5⟩
      have p0 := V5.cell 0 _ rfl
      have p1 := V5.cell 1 _ rfl
      have p2 := V5.cell 2 _ rfl
      have d0 := K5.cell 0 _ rfl
      have d1 := (K5.set 0 (.slice ra2 rl rc2) (by simp) rfl).cell 1 _ rfl
      have d2 := ((K5.set 0 (.slice ra2 rl rc2) (by simp) rfl).set 1 (.int .u32 pc) (by simp) rfl).cell 2 _ rfl
      have df := K5.free
      have G2 := ((K5.set 0 (.slice ra2 rl rc2) (by simp) rfl).set 1 (.int .u32 pc) (by simp) rfl).set 2 (.slice ma2 n mc2) (by simp) rfl
      have n0 := G2.cell 0 _ rfl
      have n1 := G2.cell 1 _ rfl
      have n2 := G2.cell 2 _ rfl
      clear V5 K5 ho5 hb5 G2 hb4 ho4 hv4 hz4 hbt HCA
      go_wp2
      refine bodyPost_ret (v := .tuple #[gst ra2 rl rc2 pc ma2 n mc2, .int .i64 r]) (by simp [results, Try.results8, go_sem, n0, n1, n2]) rfl ⟨_, _, _, _, m2, rfl, ((HZ.out.2.setCell (p := ⟨w.heap.size + 5, 0, none⟩) (by simp) _).setCell (p := ⟨w.heap.size + 5, 1, none⟩) (by simp) _).setCell (p := ⟨w.heap.size + 5, 2, none⟩) (by simp) _, ?_, by omega, by simp; omega⟩
      have hbtt := (((Betw.refl (w.heap.size + 5) (w.heap.size + 5 + 1) w5).setCell (p := ⟨w.heap.size + 5, 0, none⟩) (by simp) (by simp) (.slice ra2 rl rc2)).setCell (p := ⟨w.heap.size + 5, 1, none⟩) (by simp) (by simp) (.int .u32 pc)).setCell (p := ⟨w.heap.size + 5, 2, none⟩) (by simp) (by simp) (.slice ma2 n mc2)
      exact (OGst.betw HZ.out.1 hbtt (.inr (by omega)) hm21 hm22).wide (by omega) (by simp; omega)
theorem btot_len {D D1 : Nat → List Int} (h : ∀ i, (D1 i).length = (D i).length) (n : Nat) : btot D1 n = btot D n := btot_congr (fun i _ => h i)
end Go.Proofs.Ytanffdedignegaa
