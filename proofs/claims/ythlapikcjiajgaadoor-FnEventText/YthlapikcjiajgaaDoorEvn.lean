
/-
  Numbers of an event's text: what the specification's l14Nums returns of a list of texts. Conditions: the list lies in memory, texts are at most 1048576 bytes long.
-/
import Derived.Test.YthlapikcjiajgaaDoorBas
import Derived.Test.YthlapikcjiajgaaDoorPsx
import Derived.Test.YthlapikcjiajgaaDoorEvx
namespace Go.Proofs.YthlapikcjiajgaaDoor
open Go.ChangeShapes Go.WideShapes Go.ChangeAt Go.RowKit Go.Deep
set_option linter.unusedVariables false
set_option maxRecDepth 20000

def FldN (w : World) (a : Option Addr) (ws : List Int) : Prop :=
  0 < ws.length → ∃ b off, a = some ⟨b, off, none⟩ ∧ b < w.heap.size ∧ ∀ i x, ws[i]? = some x → w.cell? ⟨b, off + i, none⟩ = some (.int .i64 x)
theorem infoN : (Tryd.prog.info? 3).map (fun i => (i.zero, i.size, i.bytes)) = some (some (.int .i64 0), 1, 8) := by kernel_rfl
theorem infoN' : ∃ i, Tryd.prog.info? 3 = some i ∧ i.zero = some (.int .i64 0) ∧ i.size = 1 ∧ i.bytes = 8 := by
  obtain ⟨i, hi, h⟩ := Option.map_eq_some_iff.1 infoN
  simp only [Prod.mk.injEq] at h
  exact ⟨i, hi, h.1, h.2.1, h.2.2⟩
/-- A list of integers that the call owns, from block 'base' on. -/
def OwnN (w : World) (base : Nat) (v : Value) (ws : List Int) : Prop := w.ownsRow base 3 1 v ws.length (ws.map (Value.int .i64))
theorem OwnN.nil (w : World) : OwnN (w.alloc (.cells #[] 3)) w.heap.size (.slice (some ⟨w.heap.size, 0, none⟩) 0 0) [] :=
  ⟨rfl, .inr ⟨w.heap.size, 0, #[], rfl, Nat.le_refl _, by show (w.heap.push _)[w.heap.size]? = _; simp, Nat.le_refl _, by simp, rfl, rfl⟩⟩
theorem OwnN.flds {w : World} {base : Nat} {v : Value} {ws : List Int} (h : OwnN w base v ws) : ∃ a cap, v = .slice a ws.length cap ∧ ws.length ≤ cap ∧ FldN w a ws := by
  rcases h.2 with ⟨h0, h1⟩ | ⟨g, cap, cur, rfl, hb, hg, h1, h2, h3, h4⟩
  · exact ⟨none, 0, by rw [h0, h1], by omega, fun h => absurd h (by omega)⟩
  · refine ⟨_, _, rfl, h1, fun h0 => ⟨g, 0, rfl, ?_, fun i x hi => ?_⟩⟩
    · rcases Nat.lt_or_ge g w.heap.size with hlt | hge
      · exact hlt
      · rw [Array.getElem?_eq_none hge] at hg; cases hg
    · rw [Nat.zero_add]
      have hil : i < ws.length := by
        rcases Nat.lt_or_ge i ws.length with h | h
        · exact h
        · rw [List.getElem?_eq_none h] at hi; cases hi
      have e : cur[i]? = some (.int .i64 x) := by
        have := congrArg (·[i]?) h4
        simp only [Nat.mul_one] at this
        rw [List.getElem?_take, if_pos hil, List.getElem?_map, hi] at this
        simpa using this
      simp [World.cell?, hg, e]
theorem OwnN.block {w : World} {base : Nat} {v : Value} {ws : List Int} (h : OwnN w base v ws) : ∀ k, v.ownBlock = some k → base ≤ k := by
  rcases h.2 with ⟨h0, h1⟩ | ⟨g, cap, cur, rfl, hb, hg, h1, h2, h3, h4⟩
  · subst h0; intro k hk; cases hk
  · intro k hk; cases hk; exact hb
theorem OwnN.snoc {w : World} {base g cap : Nat} {ws : List Int} {r : Int} (h : w.ownsRow base 3 1 (.slice (some ⟨g, 0, none⟩) (ws.length + 1) cap) (ws.length + 1) (ws.map (Value.int .i64) ++ [.int .i64 r])) :
    OwnN w base (.slice (some ⟨g, 0, none⟩) (ws.length + 1) cap) (ws ++ [r]) := by
  unfold OwnN
  simpa using h
theorem newsN (w : World) (v : Value) : ∀ j u, [v][j]? = some u → (w.alloc (.cells #[v] 3)).cell? ((⟨w.heap.size, 0, none⟩ : Addr).add j) = some u :=
  World.news_of_block (cs := #[v]) (t := 3) (fr := (0, 0)) (by show (w.heap.push _)[w.heap.size]? = _; simp)
theorem oneN (r : Int) : ∀ u ∈ [Value.int .i64 r], u.oneCell' = true := by
  intro u hu
  simp only [List.mem_singleton] at hu
  subst hu
  rfl

namespace Ex
def rdn (x : ByteArray) : Option Int := Dc.ans (Tx.nums x) 1000000
def rdv (x : ByteArray) : Int := (rdn x).getD 0
def rdq (x : ByteArray) : Bool := (rdn x).isSome
theorem take_snoc {α : Type} (l : List α) (k : Nat) (x : α) (h : l[k]? = some x) : l.take (k + 1) = l.take k ++ [x] := by
  obtain ⟨hk, rfl⟩ := List.getElem?_eq_some_iff.1 h
  exact List.take_succ_eq_append_getElem hk
end Ex
theorem OwnN.below {w w' : World} {base : Nat} {v : Value} {zs : List Int} (h : OwnN w base v zs) (hb : Below w.heap.size w w') : OwnN w' base v zs :=
  World.ownsRow.kept (row := none) h ⟨hb.os, hb.tape, hb.output, hb.size, fun k hk _ => hb.block k hk⟩ (by cases hv : v.ownBlock <;> simp)
theorem tell_rd (x : ByteArray) : tell (Dc.ans (Tx.nums x) 1000000) = .returned (.tuple #[.int .i64 (Ex.rdv x), .bool (Ex.rdq x)]) := rfl
set_option maxHeartbeats 4000000 in
theorem spec_nums (b off cap : Nat) (ws : List ByteArray) (n : Nat) (w : World) (hn : Hid (ws.length = n)) (hn2 : n ≤ 100) (hb : b < w.heap.size) (hc : Hid (∀ i x, ws[i]? = some x → w.cell? ⟨b, off + i, none⟩ = some (.string x))) (hz : Hid (∀ x ∈ ws, x.size ≤ 1048576)) :
    Calls Tryd.prog 23 #[.slice (some ⟨b, off, none⟩) n cap] w fun e w' => ∃ v q, e = .returned (.tuple #[v, .bool q]) ∧ Below w.heap.size w w' ∧ Hid (q = ws.all Ex.rdq) ∧ Hid (q = true → OwnN w' w.heap.size v (ws.map Ex.rdv)) := by
  obtain ⟨i9, hi9, hz9, hs9, hb9⟩ := infoN'
  have HI : Hid _ := And.intro hi9 (And.intro hz9 (And.intro hs9 hb9))
  clear hi9 hz9 hs9 hb9
  have HBL : Hid (b < w.heap.size) := hb
  clear hb
  go_enter Tryd.func23, Tryd.ntmps23
  go_wp2
  go_loopw [4, 5] (fun v i wr => ∃ (k : Nat), k ≤ n ∧ i = .int .i64 k ∧ Hid (OwnN wr w.heap.size v ((ws.take k).map Ex.rdv) ∧ Below w.heap.size w wr ∧ (ws.take k).all Ex.rdq = true)) (fun _ i _ => n - (intOf i).toNat)
  case atStart => exact ⟨0, by omega, rfl, OwnN.nil w, (Below.refl _ _).alloc (Nat.le_refl _) _, rfl⟩
  case round =>
    obtain ⟨k, hk, rfl, HR⟩ := hrel
    by_cases hlt : k < n
    · have hlt' : (k : Int) < (n : Int) := by omega
      obtain ⟨x, hx⟩ : ∃ x, ws[k]? = some x := ⟨_, List.getElem?_eq_getElem (by rw [hn.out]; exact hlt)⟩
      have hcell : wr.cell? ⟨b, off + k, none⟩ = some (.string x) := (HR.out.2.1.cell (p := ⟨b, off + k, none⟩) HBL.out).trans (hc.out k x hx)
      have HX : Hid (ws[k]? = some x) := hx
      have HM : Hid (x.size ≤ 1048576) := hz.out x (List.mem_of_getElem? hx)
      clear hx
      go_wp2_with fail
      refine Calls.mono (spec_num x 1000000 wr HM.out) ?_
      rintro e w1 ⟨he, hw1⟩
      rw [tell_rd] at he
      subst he hw1
      cases hq : Ex.rdq x
      · have HQ : Hid (Ex.rdq x = false) := hq
        clear hq hcell
        go_wp2
        go_ret2
        refine ⟨_, _, rfl, HR.out.2.1, ?_, fun h => by cases h⟩
        show false = _
        symm
        rw [List.all_eq_false]
        exact ⟨x, List.mem_of_getElem? HX.out, by rw [HQ.out]; exact Bool.false_ne_true⟩
      · have HQ : Hid (Ex.rdq x = true) := hq
        clear hq hcell
        have hown := HR.out.1
        have HN : Hid _ := And.intro HR.out.1 HR.out.2
        have HL : Hid (((ws.take k).map Ex.rdv).length = k) := by
          show _ = _
          rw [List.length_map, List.length_take, hn.out]
          omega
        have hdl : ((ws.take k).map Ex.rdv).length ≤ 1048576 := by rw [HL.out]; omega
        go_wp2_with (at_builtin; refine wpList_append_lies _ rfl (.tmp 26) (.tmp 28) 42 rfl w.heap.size 3 i9 (.int .i64 0) 1 8 Tryd.underlying42 HI.out.1 HI.out.2.1 HI.out.2.2.1 HI.out.2.2.2 rfl (by omega) _ _ _ rfl (World.ownsRow.alloc hown _) _ 1 1 [.int .i64 (Ex.rdv x)] rfl rfl (newsN _ _) (oneN _) (by omega) (by unfold maxLen; omega) (by omega) (by have := HN.out.2.1.size; simp; omega) _ rfl ?_; intro g cap1 w9 hown1 hgrow hat hlt1)
        go_wp2
        go_roundw
        case rel =>
          refine ⟨k + 1, by omega, by go_num, ?_, ?_, ?_⟩
          · rw [Ex.take_snoc _ _ _ HX.out, List.map_append, List.map_cons, List.map_nil]
            have em : min k ws.length = ((ws.take k).map Ex.rdv).length := by rw [List.length_map, List.length_take]
            rw [em]
            exact OwnN.snoc hown1
          · exact (HN.out.2.1.alloc HN.out.2.1.size _).grown hgrow (by have := HN.out.2.1.size; simp; omega) (OwnN.block HN.out.1)
          · rw [Ex.take_snoc _ _ _ HX.out, List.all_append, HN.out.2.2]
            simp [HQ.out]
        case measure => simp [intOf]; omega
    · obtain rfl : k = n := by omega
      have ht : ws.take k = ws := List.take_of_length_le (by rw [hn.out]; exact Nat.le_refl _)
      have HT : Hid _ := ht
      clear ht
      go_wp2
      go_ret2
      have h1 := HR.out
      rw [HT.out] at h1
      exact ⟨_, _, rfl, h1.2.1, h1.2.2.symm, fun _ => h1.1⟩
end Go.Proofs.YthlapikcjiajgaaDoor
