
/-
  What the laid tables give a walk, and that they read as before behind one; an event that comes in as an argument. Condition: the variables read as the texts lay them.
-/
import Derived.Test.YthlapikcjiajgaaDoorBas
import Derived.Test.YthlapikcjiajgaaDoorRows
import Derived.Test.YthlapikcjiajgaaDoorEvx
import Derived.Test.YthlapikcjiajgaaDoorShelfs
import Derived.Test.YthlapikcjiajgaaDoorPsx
import Derived.ProofKit
import Derived.LaidMore
import Derived.OpenShut
import Derived.Stop.Joined
import Derived.Stop.LaidErr
import Derived.SevenTiedAt
import Derived.Lib.LaidTab
import Derived.ChangeVars
namespace Go.Proofs.YthlapikcjiajgaaDoor
open Go.ChangeShapes Go.WideShapes Go.ChangeAt Go.WideMaps Go.WideElems Go.RowKit
set_option linter.unusedVariables false
set_option maxRecDepth 100000

theorem own : ownKnob Tryd.prog.godebug = none := by kernel_rfl
theorem gNames : Tryd.prog.globalNamed "loop.example/g00076/impl.opNames" = some 0 := by kernel_rfl
theorem tNames : (Tryd.prog.globals[0]?).map (·.type) = some 58 := by kernel_rfl
abbrev cellsN : Array Value := (strs names).toArray
theorem reads_names {H : Type} (enc : TypeId × Value → H) (W : World) (sp : Nat → Bool) : DataW.trod enc Tryd.prog W 0 sp true 3 58 cellsN.toList = some (Rows.laid_loop_example_g00076_impl_opNames, []) := by kernel_rfl
theorem var_below {P : Program} {W W' : World} {n : String} {g : Nat} {cs : Array Value} (hg : P.globalNamed n = some g) (h : W.var? P n = some cs) (hlt : g < W.heap.size) (hb : Below W.heap.size W W') : W'.var? P n = some cs := by
  simp only [World.var?, hg, Option.bind_some] at h ⊢
  rw [hb.block g hlt]
  exact h
def NamesIs (W : World) : Prop := W.var? Tryd.prog "loop.example/g00076/impl.opNames" = some cellsN
abbrev TabP (w : World) : Prop := Lib.TabIs Tryd.prog w "internal/strconv.uint64pow10" .u64 Lib.pow10Tab
theorem tab_names {W : World} (h : NamesIs W) : TabN W := fun i hi => by
  have := World.var?_cell gNames h i
  rw [this]
  have hl : i < names.length := hi
  simp [nm, hl]
theorem names_head {W : World} {r : List (String × DataW Unit)} (h : laidMet Tryd.prog (("loop.example/g00076/impl.opNames", Rows.laid_loop_example_g00076_impl_opNames) :: r) W) : NamesIs W := by
  obtain ⟨ps, ⟨g', t', cs, fuel, p, q, hg', ht', hvar, hd, _, _⟩, _⟩ := h
  obtain rfl := Option.some.inj (gNames.symm.trans hg')
  obtain rfl := Option.some.inj (tNames.symm.trans ht')
  unfold NamesIs
  rw [hvar]
  have := cells_of_strs (zs := names) (n := 33) (e := 9) Tryd.underlying58 Tryd.underlying9 (by kernel_rfl) (by kernel_rfl) hd
  rw [cellsN, ← this]
theorem pow_head {W : World} {r : List (String × DataW Unit)} (h : laidMet Tryd.prog (("internal/strconv.uint64pow10", Lib.tabData .u64 Lib.pow10Tab) :: r) W) : TabP W :=
  Lib.tabIs_of_head (g := 2) (t := 103) (e := 96) (n := 20) (by kernel_rfl) (by kernel_rfl) Tryd.underlying103 Tryd.underlying96 (by kernel_rfl) (by kernel_rfl) h
theorem gPow : Tryd.prog.globalNamed "internal/strconv.uint64pow10" = some 2 := by kernel_rfl
theorem pow_below {W W' : World} (h : TabP W) (hb : Below W.heap.size W W') : TabP W' := by
  have hc := h.cell gPow 0 (by decide)
  have hlt := World.block_lt_of_cell? W _ hc
  exact var_below gPow h hlt hb
theorem vars_names {H : Type} {enc : TypeId × Value → H} {W : World} {gs : List (DataW H)} {q : List MemPlace} (h : NamesIs W)
    (hV : DataW.TrodVars enc Tryd.prog W (fun _ => true) ["loop.example/g00076/impl.opNames"] gs q) :
    gs = [Rows.laid_loop_example_g00076_impl_opNames] ∧ ∀ W' sp, Below W.heap.size W W' → DataW.TrodVars enc Tryd.prog W' sp ["loop.example/g00076/impl.opNames"] [Rows.laid_loop_example_g00076_impl_opNames] (MemPlace.row ⟨0, 0, none⟩ cellsN.size ++ [] ++ []) := by
  obtain ⟨g, t, cs, fuel, d, p', rfl, hg, ht, hvar, hd, rfl⟩ := trodVars_one hV
  obtain rfl := Option.some.inj (gNames.symm.trans hg)
  obtain rfl := Option.some.inj (tNames.symm.trans ht)
  obtain rfl : cs = cellsN := Option.some.inj (hvar.symm.trans h)
  obtain ⟨rfl, rfl⟩ := DataW.Trod.unique (v := .agg cellsN) ⟨fuel, hd⟩ ⟨3, reads_names enc W _⟩
  refine ⟨rfl, fun W' sp hb => ⟨0, 58, cellsN, 3, [], [], hg, ht, ?_, reads_names enc W' sp, rfl, rfl⟩⟩
  exact var_below hg hvar (World.block_lt_of_cell? W _ (tab_names h 0 (by omega))) hb

/-! ### The texts of events -/
abbrev laidE : List (String × DataW Unit) := Rows.fnExactEventTextRow.laid
theorem evt_met (os : Os) (args : Array Value) : laidMetH Tryd.prog laidE ((World.doorLaid Tryd.prog 80 os).forCall (fun _ _ => 0) ⟨#[], args, []⟩).memory :=
  laidMetH_of_parts3 (fuel := 8) (laidMet_of_run' 8 (by kernel_rfl) (by kernel_rfl)) (by kernel_rfl) (by kernel_rfl)
def EvtIs (W : World) : Prop := TabP W ∧ NamesIs W
theorem evt_of_laid {W : World} (h : laidMetH Tryd.prog laidE W) : EvtIs W := by
  rw [MakeChecks.laidMetH_plain _ _ _ (by kernel_rfl)] at h
  have h2 : laidMet Tryd.prog (("internal/strconv.uint64pow10", Lib.tabData .u64 Lib.pow10Tab) :: ("loop.example/g00076/impl.opNames", Rows.laid_loop_example_g00076_impl_opNames) :: []) W := laidMet.tail (laidMet.tail h)
  exact ⟨pow_head h2, names_head (laidMet.tail h2)⟩
/-- The great table laid where its variable lies. -/
def lay4 (h : Array Obj) : Array Obj := h.modify 3 fun o => match o with
  | .cells _ t fr => .cells ((Go.Pinned.utf8FirstZ.map fun (n : Nat) => Value.int .u8 (n : Int)).toArray) t fr
  | o => o
abbrev laidO : List (String × DataW Unit) := Rows.fnExactEventOfRow.laid
theorem evo_met (os : Os) (args : Array Value) : laidMetH Tryd.prog laidO (({ World.doorLaid Tryd.prog 80 os with heap := lay4 (World.doorLaid Tryd.prog 80 os).heap } : World).forCall (fun _ _ => 0) ⟨#[], args, []⟩).memory :=
  laidMetH_of_parts3 (fuel := 8) (laidMet_of_run' 8 (by kernel_rfl) (by kernel_rfl)) (by kernel_rfl) (by kernel_rfl)
theorem evo_of_laid {W : World} (h : laidMetH Tryd.prog laidO W) : NamesIs W := by
  rw [MakeChecks.laidMetH_plain _ _ _ (by kernel_rfl)] at h
  have h2 : laidMet Tryd.prog (("loop.example/g00076/impl.opNames", Rows.laid_loop_example_g00076_impl_opNames) :: ("unicode/utf8.first", Rows.laid_unicode_utf8_first) :: []) W := laidMet.tail h
  exact names_head h2
abbrev laidT : List (String × DataW Unit) := Rows.fnEventTextRow.laid
theorem eft_met (os : Os) (args : Array Value) : laidMetH Tryd.prog laidT (({ World.doorLaid Tryd.prog 80 os with heap := lay4 (World.doorLaid Tryd.prog 80 os).heap } : World).forCall (fun _ _ => 0) ⟨#[], args, []⟩).memory :=
  laidMetH_of_parts3 (fuel := 8) (laidMet_of_run' 8 (by kernel_rfl) (by kernel_rfl)) (by kernel_rfl) (by kernel_rfl)
theorem eft_of_laid {W : World} (h : laidMetH Tryd.prog laidT W) : EvtIs W := by
  rw [MakeChecks.laidMetH_plain _ _ _ (by kernel_rfl)] at h
  have h2 : laidMet Tryd.prog (("internal/strconv.uint64pow10", Lib.tabData .u64 Lib.pow10Tab) :: ("unicode/utf8.acceptRanges", Rows.laid_unicode_utf8_acceptRanges) :: ("loop.example/g00076/impl.opNames", Rows.laid_loop_example_g00076_impl_opNames) :: ("unicode/utf8.first", Rows.laid_unicode_utf8_first) :: []) W := laidMet.tail (laidMet.tail h)
  exact ⟨pow_head h2, names_head (laidMet.tail (laidMet.tail h2))⟩

/-! ### An event that comes in -/
theorem array7 {α : Type} {cs : Array α} (h : cs.size = 7) : ∃ c0 c1 c2 c3 c4 c5 c6, cs = #[c0, c1, c2, c3, c4, c5, c6] := by
  obtain ⟨l⟩ := cs
  match l, h with
  | [c0, c1, c2, c3, c4, c5, c6], _ => exact ⟨c0, c1, c2, c3, c4, c5, c6, rfl⟩
theorem cev3 : Tryd.prog.cellsOf 3 = 1 := by kernel_rfl
theorem cevU : Tryd.prog.cellsOf 22 = 1 := by kernel_rfl
theorem cevE : Tryd.prog.cellsOf 24 = 7 := by kernel_rfl
abbrev evtD {H : Type} (a c p o f u s : Int) : DataW H := .agg [.lit (.int .i64 a), .lit (.int .i64 c), .lit (.int .u32 p), .lit (.int .i64 o), .lit (.int .i64 f), .lit (.int .i64 u), .lit (.int .u32 s)]
def EvWf (a c p o f u s : Int) : Prop := (Lit.int .i64 a).wf = true ∧ (Lit.int .i64 c).wf = true ∧ (Lit.int .u32 p).wf = true ∧ (Lit.int .i64 o).wf = true ∧ (Lit.int .i64 f).wf = true ∧ (Lit.int .i64 u).wf = true ∧ (Lit.int .u32 s).wf = true
theorem evt_open {H : Type} {enc : TypeId × Value → H} {W : World} {r : Reach} {b0 base : Nat} {spare : Nat → Bool} {held : Bool} {v : Value} {d : DataW H} {q : List MemPlace}
    (hv : Value.okWide Tryd.prog W r b0 24 v) (h : DataW.Trod enc Tryd.prog W base spare held 24 v d q) :
    ∃ a c p o f u s, v = .agg #[.int .i64 a, .int .i64 c, .int .u32 p, .int .i64 o, .int .i64 f, .int .i64 u, .int .u32 s] ∧ d = evtD a c p o f u s ∧ q = [] ∧ EvWf a c p o f u s := by
  obtain ⟨cs, rfl, hsz⟩ := okWide_struct Tryd.underlying24 hv
  obtain ⟨v0, v1, v2, v3, v4, v5, v6, rfl⟩ := array7 (hsz.trans cevE)
  obtain ⟨fuel, hf⟩ := h
  obtain ⟨xs, n, _, hx, _, hl, hfs⟩ := DataW.trod_struct Tryd.underlying24 hf
  obtain ⟨y0, y1, y2, y3, y4, y5, y6, rfl⟩ := ev_list7 hl
  have g0 := hfs 0 _ rfl
  have g1 := hfs 1 _ rfl
  have g2 := hfs 2 _ rfl
  have g3 := hfs 3 _ rfl
  have g4 := hfs 4 _ rfl
  have g5 := hfs 5 _ rfl
  have g6 := hfs 6 _ rfl
  simp only [Value.cells] at g0 g1 g2 g3 g4 g5 g6
  obtain ⟨a, e0, rfl, w0⟩ := DataW.trod_int Tryd.underlying3 g0
  obtain ⟨c, e1, rfl, w1⟩ := DataW.trod_int Tryd.underlying3 g1
  obtain ⟨p, e2, rfl, w2⟩ := DataW.trod_int Tryd.underlying22 g2
  obtain ⟨o, e3, rfl, w3⟩ := DataW.trod_int Tryd.underlying3 g3
  obtain ⟨f, e4, rfl, w4⟩ := DataW.trod_int Tryd.underlying3 g4
  obtain ⟨u, e5, rfl, w5⟩ := DataW.trod_int Tryd.underlying3 g5
  obtain ⟨s, e6, rfl, w6⟩ := DataW.trod_int Tryd.underlying22 g6
  simp [cev3, cevU] at e0 e1 e2 e3 e4 e5 e6
  subst e0 e1 e2 e3 e4 e5 e6
  simp at hx
  exact ⟨a, c, p, o, f, u, s, rfl, hx.1, hx.2, w0, w1, w2, w3, w4, w5, w6⟩
theorem evt_reads {H : Type} {enc : TypeId × Value → H} {W : World} {base : Nat} {spare : Nat → Bool} {held : Bool} {a c p o f u s : Int} (h : EvWf a c p o f u s) :
    DataW.Trod enc Tryd.prog W base spare held 24 (.agg #[.int .i64 a, .int .i64 c, .int .u32 p, .int .i64 o, .int .i64 f, .int .i64 u, .int .u32 s]) (evtD a c p o f u s) [] := by
  obtain ⟨w0, w1, w2, w3, w4, w5, w6⟩ := h
  refine ⟨2, ?_⟩
  have := trod_struct_mk (enc := enc) (w := W) (base := base) (spare := spare) (held := held) (n := 1) (cs := [.int .i64 a, .int .i64 c, .int .u32 p, .int .i64 o, .int .i64 f, .int .i64 u, .int .u32 s])
    (xs := [(.lit (.int .i64 a), []), (.lit (.int .i64 c), []), (.lit (.int .u32 p), []), (.lit (.int .i64 o), []), (.lit (.int .i64 f), []), (.lit (.int .i64 u), []), (.lit (.int .u32 s), [])]) Tryd.underlying24 (by rw [cevE]; rfl)
    (by simp [cev3, cevU, DataW.trod, Tryd.underlying3, Tryd.underlying22, w0, w1, w2, w3, w4, w5, w6])
  simpa [Value.cells] using this
end Go.Proofs.YthlapikcjiajgaaDoor
