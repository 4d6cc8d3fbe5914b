
/-
  A map from pairs of integers to integers that a call makes: what it says at each pair. No function of the program in sight; no conditions but those that each fact names.
-/
import Derived.Test.YtgmhcngdgfhhaaaGreatDoorBas
import Derived.Test.YtgmhcngdgfhhaaaGreatDoorJop
import Derived.Maps.OwnOps
import Derived.Maps.OwnSet
import Derived.WideKeyEntry
import Derived.WideKeyPair
namespace Go.Proofs.YtgmhcngdgfhhaaaGreatDoor
open Go.ChangeShapes Go.WideShapes Go.ChangeAt Go.RowKit Go.Deep Go.Joins Go.Maps Go.MapKept
open Go.ChangeMaps (setBlock heap_setBlock_same heap_setBlock_other)
open Go.WideMaps (KeyLaw ArrKey keyOf_pair)
open Go.WideElems (entry_then_store)
set_option linter.unusedVariables false

theorem mpKey : ArrKey Tryz.prog 113 3 2 := ⟨by kernel_rfl, by kernel_rfl, by kernel_rfl, by kernel_rfl⟩
theorem mpLaw : KeyLaw Tryz.prog 113 := mpKey.law
theorem mpKeyed : Keyed Tryz.prog 113 := Keyed.of_law mpLaw
theorem mpInt : Tryz.prog.underlying 3 = some (.int .i64) := by kernel_rfl
theorem mpTy : Tryz.prog.underlying 111 = some (.map 113 3) := by kernel_rfl
theorem mpZero (w : World) : (zeroValue 3).run Tryz.prog w = .ok (.int .i64 0) w := by kernel_rfl
theorem mpSize : ∃ m, Tryz.prog.types.size = m + 1 := ⟨Tryz.prog.types.size - 1, by kernel_rfl⟩
def prV (a b : Int) : Value := .agg #[.int .i64 a, .int .i64 b]
def prL (a b : Int) : Lit := .string (keyBytes [.int .i64 a, .int .i64 b])
theorem pr_key {a b : Int} (wa : (Lit.int .i64 a).wf = true) (wb : (Lit.int .i64 b).wf = true) : keyOf Tryz.prog 113 (prV a b) = some (prL a b) := keyOf_pair mpKey mpInt mpSize wa wb
theorem pr_inj {a b c d : Int} (wa : (Lit.int .i64 a).wf = true) (wb : (Lit.int .i64 b).wf = true) (wc : (Lit.int .i64 c).wf = true) (wd : (Lit.int .i64 d).wf = true) (h : prL a b = prL c d) : a = c ∧ b = d := by
  have h1 := pr_key wa wb
  have h2 := pr_key wc wd
  rw [← h] at h2
  have := mpLaw.inj h1 h2
  simpa [prV] using this
/-- Block B is a map of at most n entries that says f. -/
def MW (w : World) (B n : Nat) (f : Int → Int → Int) : Prop :=
  ∃ D : DataW Unit, w.ownsMap Tryz.prog 113 (plainElem Tryz.prog 3) B n D ∧ ∀ a b, (Lit.int .i64 a).wf = true → (Lit.int .i64 b).wf = true → D.atKey (prL a b) (.lit (.int .i64 0)) = .lit (.int .i64 (f a b))
theorem MW.made (w : World) : MW (w.alloc (.map #[] 0)) w.heap.size 0 (fun _ _ => 0) := ⟨_, World.ownsMap_made _ _ _ _, fun a b _ _ => rfl⟩
theorem MW.of {w w' : World} {B n : Nat} {f : Int → Int → Int} (h : MW w B n f) (hb : w'.heap[B]? = w.heap[B]?) : MW w' B n f := by
  obtain ⟨D, ⟨es, clock, h1, h2⟩, h3⟩ := h
  exact ⟨D, ⟨es, clock, hb.trans h1, h2⟩, h3⟩
theorem MW.lt {w : World} {B n : Nat} {f : Int → Int → Int} (h : MW w B n f) : B < w.heap.size := by
  obtain ⟨D, h1, _⟩ := h
  exact h1.lt
theorem MW.below {w w' : World} {B n : Nat} {f : Int → Int → Int} (h : MW w B n f) (hb : Below w.heap.size w w') : MW w' B n f := h.of (hb.block B h.lt)
theorem MW.mono {w : World} {B n m : Nat} {f : Int → Int → Int} (h : MW w B n f) (hn : n ≤ m) : MW w B m f := by
  obtain ⟨D, h1, h2⟩ := h
  exact ⟨D, h1.mono hn, h2⟩
theorem MW.congr {w : World} {B n : Nat} {f g : Int → Int → Int} (h : MW w B n f) (hg : ∀ a b, (Lit.int .i64 a).wf = true → (Lit.int .i64 b).wf = true → f a b = g a b) : MW w B n g := by
  obtain ⟨D, h1, h2⟩ := h
  exact ⟨D, h1, fun a b wa wb => by rw [← hg a b wa wb]; exact h2 a b wa wb⟩
theorem MW.look {w : World} {B n : Nat} {f : Int → Int → Int} (h : MW w B n f) {a b : Int} (wa : (Lit.int .i64 a).wf = true) (wb : (Lit.int .i64 b).wf = true) :
    (Instr.lookup 111 (.map (some B)) (prV a b) false).run Tryz.prog w = .ok (.int .i64 (f a b)) w := by
  obtain ⟨D, h1, h2⟩ := h
  obtain ⟨c, hr, hc, _⟩ := h1.lookup_int mpKeyed mpTy mpInt (mpZero w) (pr_key wa wb)
  rw [h2 a b wa wb] at hc
  have : f a b = c := by simpa using hc
  rw [this]; exact hr
/-- A place is made at a pair, then a number is stored there: the world between, and the world behind. -/
theorem MW.step {w : World} {B n : Nat} {f : Int → Int → Int} (h : MW w B n f) (hn : n < maxLen) {a b : Int} (wa : (Lit.int .i64 a).wf = true) (wb : (Lit.int .i64 b).wf = true) :
    ∃ (v0 : Value) (st : Nat) (es1 : Array MapEntry) (c1 : Nat), (Instr.mapEntry 111 (.map (some B)) (prV a b)).run Tryz.prog w = .ok (.tuple #[v0, goInt st]) (setBlock w B (.map es1 c1)) ∧
      ∀ v : Int, (Lit.int .i64 v).wf = true → ∃ (es2 : Array MapEntry) (c2 : Nat), (Instr.entryStore 111 (.map (some B)) (goInt st) (.int .i64 v)).run Tryz.prog (setBlock w B (.map es1 c1)) = .ok () (setBlock w B (.map es2 c2)) ∧
        MW (setBlock w B (.map es2 c2)) B (n + 1) (fun x y => if x = a ∧ y = b then v else f x y) := by
  obtain ⟨D, ⟨es, clock, hb, F, hs, hD⟩, h2⟩ := h
  obtain ⟨v0, st, es1, c1, r1, _, r2⟩ := entry_then_store mpLaw mpTy (fun u => mpZero u) hb F (pr_key wa wb)
  refine ⟨v0, st, es1, c1, r1, fun v wv => ?_⟩
  obtain ⟨es2, c2, r3, r4⟩ := r2 (setBlock w B (.map es1 c1)) (.int .i64 v) (heap_setBlock_same hb _)
  have hss : setBlock (setBlock w B (.map es1 c1)) B (.map es2 c2) = setBlock w B (.map es2 c2) := by
    unfold setBlock
    simp
  rw [hss] at r3
  refine ⟨es2, c2, r3, ?_⟩
  have hown : w.ownsMap Tryz.prog 113 (plainElem Tryz.prog 3) B n D := ⟨es, clock, hb, F, hs, hD⟩
  obtain ⟨w', r5, r6, _⟩ := hown.update mpKeyed mpTy hn (pr_key wa wb) (plainElem_int mpInt wv)
  rw [r4] at r5
  have hw' : setBlock w B (.map es2 c2) = w' := by injection r5
  rw [hw']
  refine ⟨_, r6, fun x y wx wy => ?_⟩
  show _ = DataW.lit (Lit.int .i64 (if x = a ∧ y = b then v else f x y))
  by_cases hxy : x = a ∧ y = b
  · obtain ⟨rfl, rfl⟩ := hxy
    rw [if_pos ⟨rfl, rfl⟩]
    exact atKey_put_same hown.isMap (mpKeyed.key (pr_key wa wb)) _ _
  · rw [if_neg hxy, atKey_put_other (fun e => hxy (pr_inj wx wy wa wb e))]
    exact h2 x y wx wy
/-- The world between: the map says the same. -/
theorem MW.mid {w : World} {B n : Nat} {f : Int → Int → Int} (h : MW w B n f) (hn : n < maxLen) {a b : Int} (wa : (Lit.int .i64 a).wf = true) (wb : (Lit.int .i64 b).wf = true) {v : Value} {W : World}
    (hr : (Instr.mapEntry 111 (.map (some B)) (prV a b)).run Tryz.prog w = .ok v W) : MW W B (n + 1) f := by
  have hlook := h.look wa wb
  obtain ⟨D, hown, h2⟩ := h
  have hown0 := hown
  obtain ⟨es, clock, hb, F, hs, hD⟩ := hown
  have hkey := pr_key wa wb
  rcases mpLaw.find w hkey es.toList F.keys with ⟨h1, hno⟩ | ⟨j, e0, h1, h2', h3⟩
  · have e1 : (Instr.mapEntry 111 (.map (some B)) (prV a b)).run Tryz.prog w = .ok (.tuple #[.int .i64 0, goInt clock]) (setBlock w B (.map (es.push ⟨prV a b, .int .i64 0, clock⟩) (clock + 1))) := by
      simp [Instr.mapEntry, run_underlying mpTy, MapKept.run_getObj_map hb, mpLaw.check w false hkey, h1, MapKept.run_setObj_map _ hb, Result.andThen, setBlock]
    have e2 : (Instr.mapUpdate 111 (.map (some B)) (prV a b) (.int .i64 0)).run Tryz.prog w = .ok () (setBlock w B (.map (es.push ⟨prV a b, .int .i64 0, clock⟩) (clock + 1))) := by
      simp [Instr.mapUpdate, run_underlying mpTy, MapKept.run_getObj_map hb, mpLaw.check w false hkey, h1, MapKept.run_setObj_map _ hb, Result.andThen, setBlock]
    have e3 : (Instr.lookup 111 (.map (some B)) (prV a b) false).run Tryz.prog w = .ok (.int .i64 0) w := by
      simp [Instr.lookup, run_underlying mpTy, MapKept.run_getObj_map hb, mpLaw.check w es.isEmpty hkey, h1, Result.andThen]
    rw [e3] at hlook
    have hf0 : (0 : Int) = f a b := (Value.int.inj (Result.ok.inj hlook).1).2
    obtain ⟨w', r5, r6, _⟩ := hown0.update mpKeyed mpTy hn hkey (plainElem_int (H := Unit) (a := 0) mpInt (by decide))
    rw [e2] at r5
    rw [e1] at hr
    have hW : W = w' := (Result.ok.inj hr).2.symm.trans (Result.ok.inj r5).2
    rw [hW]
    refine ⟨_, r6, fun x y wx wy => ?_⟩
    by_cases hxy : x = a ∧ y = b
    · obtain ⟨rfl, rfl⟩ := hxy
      rw [← hf0]
      exact atKey_put_same hown0.isMap (mpKeyed.key hkey) _ _
    · rw [atKey_put_other (fun e => hxy (pr_inj wx wy wa wb e))]
      exact h2 x y wx wy
  · have hj : es[j]? = some e0 := by simpa using h2'
    have hW : W.heap[B]? = w.heap[B]? := by
      have hsame : es.modify j (fun e => { e with key := prV a b }) = es := by
        apply Array.ext'
        rw [Array.toList_modify, Go.ChangeMaps.modify_eq_set _ _ _ _ h2']
        have : ({ e0 with key := prV a b } : MapEntry) = e0 := by rw [← h3]
        rw [this]
        exact Go.WideElems.set_self _ _ _ h2'
      have e1 : (Instr.mapEntry 111 (.map (some B)) (prV a b)).run Tryz.prog w = .ok (.tuple #[e0.val, goInt e0.born]) (setBlock w B (.map es clock)) := by
        simp [Instr.mapEntry, run_underlying mpTy, MapKept.run_getObj_map hb, mpLaw.check w false hkey, h1, hj, h3, mpLaw.stays w hkey, hsame, MapKept.run_setObj_map _ hb, Result.andThen, setBlock]
      rw [e1] at hr
      rw [← (Result.ok.inj hr).2, heap_setBlock_same hb, hb]
    exact (MW.of (w' := W) ⟨D, hown0, h2⟩ hW).mono (by omega)
end Go.Proofs.YtgmhcngdgfhhaaaGreatDoor
