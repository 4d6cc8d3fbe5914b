/-
  The program's map of labels: what it holds, against the list of labels. Plain facts on worlds.
  What the program's source tells of its next line ('wrong').
  What the program's source takes of a line ('take').
  The word of a line that the program's source keeps ('wordAt').
-/
import Derived.Test.YtdjapcfejmhjnaaGreatDoorAmx
import Derived.Maps.OwnSet
import Derived.StringKeys
import Derived.BigQuiet
import Derived.Deep.RegionLaw
import Derived.Deep.AppendLies
import Derived.Test.YtdjapcfejmhjnaaGreatDoorRdy
namespace Go.Proofs.YtdjapcfejmhjnaaGreatDoor
open Go.ChangeShapes Go.WideShapes Go.ChangeAt Go.RowKit Go.Deep Go.Maps
set_option linter.unusedVariables false
set_option maxRecDepth 20000

namespace Am
theorem find_snoc (ls : Labs) (x y : ByteArray) (n : Int) (h : ∀ p ∈ ls, 0 ≤ p.2) : find (ls ++ [(x, n)]) y = if 0 ≤ find ls y then find ls y else if x = y then n else -1 := by
  induction ls with
  | nil => simp [find]
  | cons p ls ih =>
    rw [List.cons_append, find, find]
    by_cases e : p.1 = y
    · rw [if_pos e, if_pos e, if_pos (h p (by simp))]
    · rw [if_neg e, if_neg e]
      exact ih (fun q hq => h q (by simp [hq]))
/-- Labels that were told one behind the other, none twice. -/
inductive Good : Labs → Prop
  | nil : Good []
  | snoc {ls : Labs} {x : ByteArray} {n : Int} : Good ls → find ls x < 0 → x.size ≤ 1048576 → 0 ≤ n → n ≤ 256 → Good (ls ++ [(x, n)])
theorem Good.range {ls : Labs} (h : Good ls) : ∀ p ∈ ls, 0 ≤ p.2 ∧ p.2 ≤ 256 := by
  induction h with
  | nil => intro p hp; cases hp
  | snoc h h1 hx h2 h3 ih =>
    intro p hp
    rw [List.mem_append, List.mem_singleton] at hp
    rcases hp with hp | rfl
    · exact ih p hp
    · exact ⟨h2, h3⟩
end Am
/-- A label as the key of a map. -/
def kl (x : ByteArray) : Lit := .string x.data.toList
theorem kl_inj {x y : ByteArray} (h : kl x = kl y) : x = y := by
  unfold kl at h
  injection h with h
  exact ByteArray.ext (Array.toList_inj.1 h)
theorem kl_key (x : ByteArray) : WideAt.IsKeyLit (kl x) := trivial
/-- The map of a list of labels. -/
def dm (ls : Am.Labs) : DataW Unit := ls.foldl (fun D p => D.put (kl p.1) (.lit (.int .i64 p.2))) (.map [])
theorem dm_snoc (ls : Am.Labs) (x : ByteArray) (n : Int) : dm (ls ++ [(x, n)]) = (dm ls).put (kl x) (.lit (.int .i64 n)) := by simp [dm, List.foldl_append]
theorem fold_isMap : ∀ (ls : Am.Labs) (D : DataW Unit), IsMap D → IsMap (ls.foldl (fun D p => D.put (kl p.1) (.lit (.int .i64 p.2))) D)
  | [], _, h => h
  | p :: ls, D, h => fold_isMap ls _ (h.put _ _)
theorem dm_isMap (ls : Am.Labs) : IsMap (dm ls) := fold_isMap ls _ isMap_empty
theorem dm_find {ls : Am.Labs} (h : Am.Good ls) (y : ByteArray) : Maps.has (dm ls) (kl y) = decide (0 ≤ Am.find ls y) ∧ (0 ≤ Am.find ls y → ∀ z, (dm ls).atKey (kl y) z = .lit (.int .i64 (Am.find ls y))) := by
  induction h with
  | nil => exact ⟨by simp [dm, Am.find, Maps.has], fun h => by simp [Am.find] at h⟩
  | @snoc ls x n hg h1 hx h2 h3 ih =>
    have hr := hg.range
    rw [dm_snoc, Am.find_snoc ls x y n (fun p hp => (hr p hp).1)]
    by_cases e : x = y
    · subst e
      rw [if_neg (by omega), if_pos rfl, has_put_same (dm_isMap ls) (kl_key x), decide_eq_true h2]
      exact ⟨rfl, fun _ z => atKey_put_same (dm_isMap ls) (kl_key x) _ z⟩
    · have hne : kl y ≠ kl x := fun h => e (kl_inj h).symm
      rw [has_put_other hne, if_neg e]
      by_cases hf : 0 ≤ Am.find ls y
      · rw [if_pos hf]
        exact ⟨ih.1, fun h0 z => by rw [atKey_put_other hne]; exact ih.2 hf z⟩
      · rw [if_neg hf, ih.1, decide_eq_false hf]
        exact ⟨rfl, fun h => by omega⟩
theorem law9 : Keyed Tryz.prog 9 := string_keyed Tryz.underlying9
theorem zero3 (w : World) : (zeroValue 3).run Tryz.prog w = .ok (.int .i64 0) w := by kernel_rfl
/-- Block 'b' is the map of these labels. -/
abbrev LbMap (w : World) (b : Nat) (ls : Am.Labs) : Prop := w.ownsMap Tryz.prog 9 (plainElem Tryz.prog 3) b ls.length (dm ls)
/-- What a look-up gives: 0 where there is no such label. -/
def Am.got (ls : Am.Labs) (x : ByteArray) : Int := if 0 ≤ Am.find ls x then Am.find ls x else 0
theorem LbMap.look {w : World} {b : Nat} {ls : Am.Labs} (h : LbMap w b ls) (hg : Am.Good ls) (x : ByteArray) (hx : x.size ≤ 1048576) :
    (Instr.lookup 58 (.map (some b)) (.string x) true).run Tryz.prog w = .ok (.tuple #[.int .i64 (Am.got ls x), .bool (decide (0 ≤ Am.find ls x))]) w := by
  have hkey : keyOf Tryz.prog 9 (.string x) = some (kl x) := WideMaps.keyOf_string_mk Tryz.underlying9 (by unfold maxLen; omega)
  obtain ⟨v, ps, hrun, hv⟩ := World.ownsMap.look_ok (t := 58) h law9 Tryz.underlying58 (zero3 w) (plainElem_int Tryz.underlying3 (by decide)) hkey
  obtain ⟨c, rfl, hc, hwc⟩ := plainElem_int_inv Tryz.underlying3 hv
  obtain ⟨d1, d2⟩ := dm_find hg x
  have e : c = Am.got ls x := by
    unfold Am.got
    by_cases h0 : 0 ≤ Am.find ls x
    · rw [d2 h0] at hc
      simp only [Prod.mk.injEq] at hc
      have := hc.1
      injection this with this
      injection this with _ this
      rw [if_pos h0]
      exact this.symm
    · rw [atKey_of_not_has (by rw [d1, decide_eq_false h0])] at hc
      simp only [Prod.mk.injEq] at hc
      have := hc.1
      injection this with this
      injection this with _ this
      rw [if_neg h0]
      exact this.symm
  rw [d1, e] at hrun
  exact hrun
theorem LbMap.drew {w : World} {b : Nat} {ls : Am.Labs} (h : LbMap w b ls) (n : Nat) : LbMap (w.drewN n) b ls := h
theorem LbMap.put {w : World} {b : Nat} {ls : Am.Labs} (h : LbMap w b ls) (x : ByteArray) (n : Int) (hx : x.size ≤ 1048576) (hl : ls.length ≤ 1048576) (h0 : 0 ≤ n) (h1 : n ≤ 256) :
    ∃ w', (Instr.mapUpdate 58 (.map (some b)) (.string x) (.int .i64 n)).run Tryz.prog w = .ok () w' ∧ LbMap w' b (ls ++ [(x, n)]) ∧ w.grownBy w' (some b) := by
  have hkey : keyOf Tryz.prog 9 (.string x) = some (kl x) := WideMaps.keyOf_string_mk Tryz.underlying9 (by unfold maxLen; omega)
  obtain ⟨w', hr, ho, hg⟩ := World.ownsMap.update (t := 58) h law9 Tryz.underlying58 (by unfold maxLen; omega) hkey (plainElem_int (H := Unit) Tryz.underlying3 (a := n) (WalkArith.wf_i64 (by omega)))
  refine ⟨w', hr, ?_, hg⟩
  show w'.ownsMap _ _ _ _ _ _
  rw [dm_snoc, List.length_append]
  exact ho
theorem LbMap.below {w w' : World} {b : Nat} {ls : Am.Labs} (h : LbMap w b ls) (hb : Below w.heap.size w w') : LbMap w' b ls := by
  obtain ⟨es, ck, hh, r⟩ := h
  refine ⟨es, ck, ?_, r⟩
  rw [hb.block b (Array.getElem?_eq_some_iff.1 hh).1]
  exact hh
end Go.Proofs.YtdjapcfejmhjnaaGreatDoor
namespace Go.Proofs.YtdjapcfejmhjnaaGreatDoor
open Go.ChangeShapes Go.WideShapes Go.ChangeAt Go.RowKit Go.Deep Go.Maps
set_option linter.unusedVariables false
set_option maxRecDepth 20000

abbrev a8 (kd op a b c m wd : Int) (lab : ByteArray) : Value := .agg #[.int .i64 kd, .int .i64 op, .int .i64 a, .int .i64 b, .int .i64 c, .int .i64 m, .int .u32 wd, .string lab]
set_option maxHeartbeats 1000000 in
theorem wrong_line (B : Nat) (kd op a b c m wd : Int) (lab : ByteArray) (w : World) :
    Calls Tryz.prog 71 #[.pointer (some ⟨B, 0, none⟩), a8 kd op a b c m wd lab, .int .i64 2] w fun e w' => e = .returned (.bool (kd == 0)) ∧ Below w.heap.size w w' := by
  go_enter Tryz.func71, Tryz.ntmps71
  go_wp2
  go_ret
  exact ⟨rfl, (Below.refl _ _).alloc (Nat.le_refl _) _⟩
set_option maxHeartbeats 1000000 in
theorem wrong_many (B : Nat) (ac : Option Addr) (nc cc : Nat) (kd op a b c m wd : Int) (lab : ByteArray) (w : World) (hc : w.cell? ⟨B, 0, none⟩ = some (.slice ac nc cc)) :
    Calls Tryz.prog 71 #[.pointer (some ⟨B, 0, none⟩), a8 kd op a b c m wd lab, .int .i64 4] w fun e w' => e = .returned (.bool (kd != 1 && (nc : Int) == 256)) ∧ Below w.heap.size w w' := by
  have hlt := World.block_lt_of_cell? w _ hc
  simp only at hlt
  by_cases h1 : kd = 1
  · have h1' : (kd != 1) = false := by rw [h1]; rfl
    have HE : Hid (false = (kd != 1 && (nc : Int) == 256)) := by show _ = _; rw [h1']; rfl
    go_enter Tryz.func71, Tryz.ntmps71
    go_wp2
    go_ret
    exact ⟨by rw [← HE.out]; rfl, (Below.refl _ _).alloc (Nat.le_refl _) _⟩
  · have h1' : (kd != 1) = true := by simpa using h1
    have HE : Hid (((nc : Int) == 256) = (kd != 1 && (nc : Int) == 256)) := by show _ = _; rw [h1']; rfl
    go_enter Tryz.func71, Tryz.ntmps71
    go_wp2
    go_ret
    exact ⟨by rw [← HE.out]; rfl, (Below.refl _ _).alloc (Nat.le_refl _) _⟩
set_option maxHeartbeats 1000000 in
theorem wrong_twice (B mb : Nat) (ls : Am.Labs) (kd op a b c m wd : Int) (lab : ByteArray) (w : World) (hc : w.cell? ⟨B, 1, none⟩ = some (.map (some mb))) (hm : LbMap w mb ls) (hg : Am.Good ls) (hl : lab.size ≤ 1048576) :
    Calls Tryz.prog 71 #[.pointer (some ⟨B, 0, none⟩), a8 kd op a b c m wd lab, .int .i64 3] w fun e w' => e = .returned (.bool (kd == 1 && decide (0 ≤ Am.find ls lab))) ∧ Below w.heap.size w w' := by
  have hlt := World.block_lt_of_cell? w _ hc
  simp only at hlt
  have hm2 : LbMap (w.alloc (.cells #[.int .i64 kd, .int .i64 op, .int .i64 a, .int .i64 b, .int .i64 c, .int .i64 m, .int .u32 wd, .string lab] 114)) mb ls := hm.below ((Below.refl _ _).alloc (Nat.le_refl _) _)
  have hrun := fun n => (hm2.drew n).look hg lab hl
  generalize decide (0 ≤ Am.find ls lab) = q at hrun
  generalize Am.got ls lab = v at hrun
  clear hm hm2 hg
  by_cases h1 : kd = 1
  · have h1' : (kd == 1) = true := by rw [h1]; rfl
    have HE : Hid (q = (kd == 1 && q)) := by show _ = _; rw [h1']; rfl
    clear h1
    go_enter Tryz.func71, Tryz.ntmps71
    go_wp2
    go_quiet (fail)
    go_wp2
    go_ret
    exact ⟨by rw [← HE.out]; rfl, below_drewN ((Below.refl _ _).alloc (Nat.le_refl _) _) _⟩
  · have h1' : (kd == 1) = false := by simpa using h1
    have HE : Hid (false = (kd == 1 && q)) := by show _ = _; rw [h1']; rfl
    clear h1
    go_enter Tryz.func71, Tryz.ntmps71
    go_wp2
    go_quiet (fail)
    go_wp2
    go_ret
    exact ⟨by rw [← HE.out]; rfl, below_drewN ((Below.refl _ _).alloc (Nat.le_refl _) _) _⟩
/-- Which code the next line is refused by: 0 for none. -/
def Am.bad (kd : Int) (n : Nat) (fd : Int) : Int := if kd = 0 then 2 else if kd = 1 then (if 0 ≤ fd then 3 else 0) else if n = 256 then 4 else 0
end Go.Proofs.YtdjapcfejmhjnaaGreatDoor
namespace Go.Proofs.YtdjapcfejmhjnaaGreatDoor
open Go.ChangeShapes Go.WideShapes Go.ChangeAt Go.RowKit Go.Deep Go.Maps
set_option linter.unusedVariables false
set_option maxRecDepth 20000

abbrev a9 (ln kd op a b c m wd : Int) (lab : ByteArray) : Value := .agg #[.int .i64 ln, .int .i64 kd, .int .i64 op, .int .i64 a, .int .i64 b, .int .i64 c, .int .i64 m, .int .u32 wd, .string lab]
abbrev b9 (ln kd op a b c m wd : Int) (lab : ByteArray) : Obj := .cells #[.int .i64 ln, .int .i64 kd, .int .i64 op, .int .i64 a, .int .i64 b, .int .i64 c, .int .i64 m, .int .u32 wd, .string lab] 131
set_option maxHeartbeats 1000000 in
theorem take_label (B mb : Nat) (ls : Am.Labs) (ac : Option Addr) (nc cc : Nat) (ln op a b c m wd : Int) (lab : ByteArray) (w : World) (h0 : w.cell? ⟨B, 0, none⟩ = some (.slice ac nc cc)) (h1 : w.cell? ⟨B, 1, none⟩ = some (.map (some mb))) (hm : LbMap w mb ls) (hl : lab.size ≤ 1048576) (hll : ls.length ≤ 1048576) (hn : nc ≤ 256) :
    Calls Tryz.prog 72 #[.pointer (some ⟨B, 0, none⟩), a9 ln 1 op a b c m wd lab] w fun e w' => e = .returned (.tuple #[]) ∧ LbMap w' mb (ls ++ [(lab, (nc : Int))]) ∧ ∃ wx, Below w.heap.size w wx ∧ wx.grownBy w' (some mb) := by
  have hlt := World.block_lt_of_cell? w _ h0
  simp only at hlt
  have hm2 : LbMap (w.alloc (b9 ln 1 op a b c m wd lab)) mb ls := hm.below ((Below.refl _ _).alloc (Nat.le_refl _) _)
  obtain ⟨wF, hrun, hM, hG⟩ := (show LbMap (w.alloc (b9 ln 1 op a b c m wd lab)).drew mb ls from hm2).put lab nc hl hll (by omega) (by omega)
  have HP : Hid _ := And.intro hM hG
  clear hM hG hm hm2
  go_enter Tryz.func72, Tryz.ntmps72
  go_wp2
  go_region
  go_wp2
  refine bodyPost_ret (results_none rfl _ _ _) rfl ?_
  exact ⟨rfl, HP.out.1, (w.alloc (b9 ln 1 op a b c m wd lab)).drew, ((Below.refl _ _).alloc (Nat.le_refl _) _).trans ⟨rfl, rfl, rfl, Nat.le_refl _, fun _ _ => rfl⟩, HP.out.2⟩
abbrev l9 (ln kd op a b c m wd : Int) (lab : ByteArray) : List Value := [.int .i64 ln, .int .i64 kd, .int .i64 op, .int .i64 a, .int .i64 b, .int .i64 c, .int .i64 m, .int .u32 wd, .string lab]
theorem infoC : (Tryz.prog.info? 131).map (fun i => (i.zero, i.size, i.bytes)) = some (some (a9 0 0 0 0 0 0 0 0 ⟨#[]⟩), 9, 80) := by kernel_rfl
theorem infoC' : ∃ i, Tryz.prog.info? 131 = some i ∧ i.zero = some (a9 0 0 0 0 0 0 0 0 ⟨#[]⟩) ∧ i.size = 9 ∧ i.bytes = 80 := by
  obtain ⟨i, hi, h⟩ := Option.map_eq_some_iff.1 infoC
  simp only [Prod.mk.injEq] at h
  exact ⟨i, hi, h.1, h.2.1, h.2.2⟩
theorem one9 (ln kd op a b c m wd : Int) (lab : ByteArray) : ∀ u ∈ l9 ln kd op a b c m wd lab, u.oneCell' = true := by
  intro u hu
  simp only [l9, List.mem_cons, List.mem_nil_iff, or_false] at hu
  rcases hu with rfl | rfl | rfl | rfl | rfl | rfl | rfl | rfl | rfl <;> rfl
theorem news9 (w : World) (H : Nat) (ln kd op a b c m wd : Int) (lab : ByteArray) (hH : w.heap.size = H) : ∀ j u, (l9 ln kd op a b c m wd lab)[j]? = some u → (w.alloc (b9 ln kd op a b c m wd lab)).drew.cell? ((⟨H, 0, none⟩ : Addr).add j) = some u := by
  subst hH
  exact World.news_of_block (cs := #[.int .i64 ln, .int .i64 kd, .int .i64 op, .int .i64 a, .int .i64 b, .int .i64 c, .int .i64 m, .int .u32 wd, .string lab]) (t := 131) (fr := (0, 0)) (by show (w.heap.push _)[w.heap.size]? = _; simp)
set_option maxHeartbeats 2000000 in
theorem take_code (base B : Nat) (v : Value) (n : Nat) (xs : List Value) (ln kd op a b c m wd : Int) (lab : ByteArray) (w : World) (h0 : w.cell? ⟨B, 0, none⟩ = some v) (hf : w.frozen? ⟨B, 0, none⟩ = false) (hown : w.ownsRow base 131 9 v n xs) (hB : v.ownBlock ≠ some B) (hbase : base ≤ w.heap.size) (hk : (kd == 1) = false) (hn : n ≤ 1048576) :
    Calls Tryz.prog 72 #[.pointer (some ⟨B, 0, none⟩), a9 ln kd op a b c m wd lab] w fun e w' => e = .returned (.tuple #[]) ∧ ∃ g cap wx wy, Below w.heap.size w wx ∧ wx.grownBy wy v.ownBlock ∧ (v.ownBlock = some g ∨ w.heap.size ≤ g) ∧ wy.ownsRow base 131 9 (.slice (some ⟨g, 0, none⟩) (n + 1) cap) (n + 1) (xs ++ l9 ln kd op a b c m wd lab) ∧ w' = wy.setCell ⟨B, 0, none⟩ (.slice (some ⟨g, 0, none⟩) (n + 1) cap) := by
  have hlt := World.block_lt_of_cell? w _ h0
  simp only at hlt
  obtain ⟨i9, hi9, hz9, hs9, hb9⟩ := infoC'
  have HI : Hid _ := And.intro hi9 (And.intro hz9 (And.intro hs9 hb9))
  clear hi9 hz9 hs9 hb9
  have hb1 : Below w.heap.size w (w.alloc (b9 ln kd op a b c m wd lab)) := (Below.refl _ _).alloc (Nat.le_refl _) _
  have hb2 : Below w.heap.size w ((w.alloc (b9 ln kd op a b c m wd lab)).alloc (b9 ln kd op a b c m wd lab)).drew := (hb1.alloc hb1.size _).trans ⟨rfl, rfl, rfl, Nat.le_refl _, fun _ _ => rfl⟩
  have hown2 := owns_below hown hb2
  have hc2 : ((w.alloc (b9 ln kd op a b c m wd lab)).alloc (b9 ln kd op a b c m wd lab)).drew.cell? ⟨B, 0, none⟩ = some v := (hb2.cell (p := ⟨B, 0, none⟩) hlt).trans h0
  have hf2 : ((w.alloc (b9 ln kd op a b c m wd lab)).alloc (b9 ln kd op a b c m wd lab)).drew.frozen? ⟨B, 0, none⟩ = false := (hb2.frozen (p := ⟨B, 0, none⟩) hlt).trans hf
  have HB2 : Hid _ := hb2
  clear hb1 hb2
  go_enter Tryz.func72, Tryz.ntmps72
  go_wp2
  go_region_law (refine step_append_lies _ rfl (.tmp 24) (.tmp 26) 88 rfl base 131 i9 (a9 0 0 0 0 0 0 0 0 ⟨#[]⟩) 9 80 Tryz.underlying88 HI.out.1 HI.out.2.1 HI.out.2.2.1 HI.out.2.2.2 rfl (by omega) v n xs rfl hown2 ⟨w.heap.size + 1, 0, none⟩ 1 1 (l9 ln kd op a b c m wd lab) rfl rfl (news9 _ _ _ _ _ _ _ _ _ _ _ (by simp)) (one9 _ _ _ _ _ _ _ _ _) (by omega) (by unfold maxLen; omega) (by omega) (by simp; omega) _ rfl ?_; intro g cap1 w4 hown4 hgrow hat hlt4; have hc4 := hgrow.cell hc2 (fun e => hB e.symm); have hf4 := (hgrow.frozen_far ⟨B, 0, none⟩ (by show B < _; simp; omega) (fun e => hB e.symm)).trans hf2)
  all_goals (go_wp2; go_end0; exact ⟨rfl, g, cap1, _, w4, HB2.out, hgrow, hat.imp id (fun e => by have h4 := HB2.out.size; rw [e]; exact h4), hown4, rfl⟩)
end Go.Proofs.YtdjapcfejmhjnaaGreatDoor
namespace Go.Proofs.YtdjapcfejmhjnaaGreatDoor
open Go.ChangeShapes Go.WideShapes Go.ChangeAt Go.RowKit Go.Deep Go.Maps
set_option linter.unusedVariables false
set_option maxRecDepth 20000

set_option maxHeartbeats 1000000 in
theorem word_word (B g n cap k : Nat) (ln kd op a b c m wd : Int) (lab : ByteArray) (w : World) (h0 : w.cell? ⟨B, 0, none⟩ = some (.slice (some ⟨g, 0, none⟩) n cap)) (hk : k < n) (hn : n ≤ 256) (hkd : (kd == 2) = true)
    (c1 : w.cell? ⟨g, k * 9 + 1, none⟩ = some (.int .i64 kd)) (c2 : w.cell? ⟨g, k * 9 + 2, none⟩ = some (.int .i64 op)) (c3 : w.cell? ⟨g, k * 9 + 3, none⟩ = some (.int .i64 a)) (c4 : w.cell? ⟨g, k * 9 + 4, none⟩ = some (.int .i64 b)) (c5 : w.cell? ⟨g, k * 9 + 5, none⟩ = some (.int .i64 c)) (c6 : w.cell? ⟨g, k * 9 + 6, none⟩ = some (.int .i64 m)) (c7 : w.cell? ⟨g, k * 9 + 7, none⟩ = some (.int .u32 wd)) (c8 : w.cell? ⟨g, k * 9 + 8, none⟩ = some (.string lab)) :
    Calls Tryz.prog 73 #[.pointer (some ⟨B, 0, none⟩), .int .i64 k] w fun e w' => e = .returned (.tuple #[.int .u32 wd, .int .i64 0]) ∧ Below w.heap.size w w' := by
  have hk' : (k : Int) < (n : Int) := by omega
  go_enter Tryz.func73, Tryz.ntmps73
  go_wp2
  go_ret2
  exact ⟨rfl, (Below.refl _ _).alloc (Nat.le_refl _) _⟩
set_option maxHeartbeats 1000000 in
theorem word_instr_yes (z : Int) (B g n cap k : Nat) (ln kd op a b c m wd : Int) (lab : ByteArray) (w : World) (h0 : w.cell? ⟨B, 0, none⟩ = some (.slice (some ⟨g, 0, none⟩) n cap)) (hk : k < n) (hn : n ≤ 256) (h2 : (kd == 2) = false) (h4 : (kd == 4) = false) (ht : Tab w)
    (c1 : w.cell? ⟨g, k * 9 + 1, none⟩ = some (.int .i64 kd)) (c2 : w.cell? ⟨g, k * 9 + 2, none⟩ = some (.int .i64 op)) (c3 : w.cell? ⟨g, k * 9 + 3, none⟩ = some (.int .i64 a)) (c4 : w.cell? ⟨g, k * 9 + 4, none⟩ = some (.int .i64 b)) (c5 : w.cell? ⟨g, k * 9 + 5, none⟩ = some (.int .i64 c)) (c6 : w.cell? ⟨g, k * 9 + 6, none⟩ = some (.int .i64 m)) (c7 : w.cell? ⟨g, k * 9 + 7, none⟩ = some (.int .u32 wd)) (c8 : w.cell? ⟨g, k * 9 + 8, none⟩ = some (.string lab))
    (HC : Hid (∀ X, Tab X → Calls Tryz.prog 102 #[ins op a b c m] X fun e w' => e = .returned (.tuple #[.int .u32 z, .bool true]) ∧ Below X.heap.size X w')) :
    Calls Tryz.prog 73 #[.pointer (some ⟨B, 0, none⟩), .int .i64 k] w fun e w' => e = .returned (.tuple #[.int .u32 z, .int .i64 0]) ∧ Below w.heap.size w w' := by
  have hk' : (k : Int) < (n : Int) := by omega
  have HT : Hid _ := ht
  clear ht
  have hb1 : Below w.heap.size w (w.alloc (.cells #[.int .i64 kd, .int .i64 op, .int .i64 a, .int .i64 b, .int .i64 c, .int .i64 m, .int .u32 wd, .string lab] 114)) := (Below.refl _ _).alloc (Nat.le_refl _) _
  have HB : Hid _ := hb1
  clear hb1
  go_enter Tryz.func73, Tryz.ntmps73
  go_wp2_with fail
  refine (HC.out _ (Tab.below HT.out HB.out)).mono ?_
  rintro e w1 ⟨rfl, hb⟩
  have HB2 : Hid _ := HB.out.trans (hb.mono HB.out.size)
  clear hb
  go_wp2
  go_ret2
  exact ⟨rfl, HB2.out⟩
set_option maxHeartbeats 1000000 in
theorem word_instr_no (B g n cap k : Nat) (ln kd op a b c m wd : Int) (lab : ByteArray) (w : World) (h0 : w.cell? ⟨B, 0, none⟩ = some (.slice (some ⟨g, 0, none⟩) n cap)) (hk : k < n) (hn : n ≤ 256) (h2 : (kd == 2) = false) (h4 : (kd == 4) = false) (ht : Tab w)
    (c1 : w.cell? ⟨g, k * 9 + 1, none⟩ = some (.int .i64 kd)) (c2 : w.cell? ⟨g, k * 9 + 2, none⟩ = some (.int .i64 op)) (c3 : w.cell? ⟨g, k * 9 + 3, none⟩ = some (.int .i64 a)) (c4 : w.cell? ⟨g, k * 9 + 4, none⟩ = some (.int .i64 b)) (c5 : w.cell? ⟨g, k * 9 + 5, none⟩ = some (.int .i64 c)) (c6 : w.cell? ⟨g, k * 9 + 6, none⟩ = some (.int .i64 m)) (c7 : w.cell? ⟨g, k * 9 + 7, none⟩ = some (.int .u32 wd)) (c8 : w.cell? ⟨g, k * 9 + 8, none⟩ = some (.string lab))
    (HC : Hid (∀ X, Tab X → Calls Tryz.prog 102 #[ins op a b c m] X fun e w' => e = .returned (.tuple #[.int .u32 0, .bool false]) ∧ Below X.heap.size X w')) :
    Calls Tryz.prog 73 #[.pointer (some ⟨B, 0, none⟩), .int .i64 k] w fun e w' => e = .returned (.tuple #[.int .u32 0, .int .i64 6]) ∧ Below w.heap.size w w' := by
  have hk' : (k : Int) < (n : Int) := by omega
  have HT : Hid _ := ht
  clear ht
  have hb1 : Below w.heap.size w (w.alloc (.cells #[.int .i64 kd, .int .i64 op, .int .i64 a, .int .i64 b, .int .i64 c, .int .i64 m, .int .u32 wd, .string lab] 114)) := (Below.refl _ _).alloc (Nat.le_refl _) _
  have HB : Hid _ := hb1
  clear hb1
  go_enter Tryz.func73, Tryz.ntmps73
  go_wp2_with fail
  refine (HC.out _ (Tab.below HT.out HB.out)).mono ?_
  rintro e w1 ⟨rfl, hb⟩
  have HB2 : Hid _ := HB.out.trans (hb.mono HB.out.size)
  clear hb
  go_wp2
  go_ret2
  exact ⟨rfl, HB2.out⟩
set_option maxHeartbeats 1000000 in
theorem word_branch_none (B g n cap k : Nat) (ln kd op a b c m wd : Int) (lab : ByteArray) (w : World) (h0 : w.cell? ⟨B, 0, none⟩ = some (.slice (some ⟨g, 0, none⟩) n cap)) (hk : k < n) (hn : n ≤ 256) (h4 : (kd == 4) = true) (h2 : (kd == 2) = false)
    (c1 : w.cell? ⟨g, k * 9 + 1, none⟩ = some (.int .i64 kd)) (c2 : w.cell? ⟨g, k * 9 + 2, none⟩ = some (.int .i64 op)) (c3 : w.cell? ⟨g, k * 9 + 3, none⟩ = some (.int .i64 a)) (c4 : w.cell? ⟨g, k * 9 + 4, none⟩ = some (.int .i64 b)) (c5 : w.cell? ⟨g, k * 9 + 5, none⟩ = some (.int .i64 c)) (c6 : w.cell? ⟨g, k * 9 + 6, none⟩ = some (.int .i64 m)) (c7 : w.cell? ⟨g, k * 9 + 7, none⟩ = some (.int .u32 wd)) (c8 : w.cell? ⟨g, k * 9 + 8, none⟩ = some (.string lab))
    (mb : Nat) (ls : Am.Labs) (fd : Int) (h1 : w.cell? ⟨B, 1, none⟩ = some (.map (some mb))) (hm : LbMap w mb ls) (hg : Am.Good ls) (hl : lab.size ≤ 1048576) (HFD : Hid (Am.find ls lab = fd)) (hfd : fd < 0) :
    Calls Tryz.prog 73 #[.pointer (some ⟨B, 0, none⟩), .int .i64 k] w fun e w' => e = .returned (.tuple #[.int .u32 0, .int .i64 5]) ∧ Below w.heap.size w w' := by
  have hk' : (k : Int) < (n : Int) := by omega
  have hlt := World.block_lt_of_cell? w _ h0
  simp only at hlt
  have hm2 : LbMap (w.alloc (.cells #[.int .i64 kd, .int .i64 op, .int .i64 a, .int .i64 b, .int .i64 c, .int .i64 m, .int .u32 wd, .string lab] 114)) mb ls := hm.below ((Below.refl _ _).alloc (Nat.le_refl _) _)
  have hrun := fun n => (hm2.drew n).look hg lab hl
  rw [HFD.out, decide_eq_false (by omega : ¬ 0 ≤ fd)] at hrun
  generalize Am.got ls lab = v at hrun
  clear hm hm2 hg
  go_enter Tryz.func73, Tryz.ntmps73
  go_wp2
  go_quiet (fail)
  go_wp2
  go_ret2
  exact ⟨rfl, below_drewN ((Below.refl _ _).alloc (Nat.le_refl _) _) _⟩
set_option maxHeartbeats 1000000 in
theorem word_branch_yes (z : Int) (B g n cap k : Nat) (ln kd op a b c m wd : Int) (lab : ByteArray) (w : World) (h0 : w.cell? ⟨B, 0, none⟩ = some (.slice (some ⟨g, 0, none⟩) n cap)) (hk : k < n) (hn : n ≤ 256) (h4 : (kd == 4) = true) (h2 : (kd == 2) = false) (ht : Tab w)
    (c1 : w.cell? ⟨g, k * 9 + 1, none⟩ = some (.int .i64 kd)) (c2 : w.cell? ⟨g, k * 9 + 2, none⟩ = some (.int .i64 op)) (c3 : w.cell? ⟨g, k * 9 + 3, none⟩ = some (.int .i64 a)) (c4 : w.cell? ⟨g, k * 9 + 4, none⟩ = some (.int .i64 b)) (c5 : w.cell? ⟨g, k * 9 + 5, none⟩ = some (.int .i64 c)) (c6 : w.cell? ⟨g, k * 9 + 6, none⟩ = some (.int .i64 m)) (c7 : w.cell? ⟨g, k * 9 + 7, none⟩ = some (.int .u32 wd)) (c8 : w.cell? ⟨g, k * 9 + 8, none⟩ = some (.string lab))
    (mb : Nat) (ls : Am.Labs) (fd : Int) (h1 : w.cell? ⟨B, 1, none⟩ = some (.map (some mb))) (hm : LbMap w mb ls) (hg : Am.Good ls) (hl : lab.size ≤ 1048576) (HFD : Hid (Am.find ls lab = fd)) (hfd : 0 ≤ fd) (hfd2 : fd ≤ 256)
    (HC : Hid (∀ X, Tab X → Calls Tryz.prog 102 #[ins op a b c (fd - ((k : Int) + 1))] X fun e w' => e = .returned (.tuple #[.int .u32 z, .bool true]) ∧ Below X.heap.size X w')) :
    Calls Tryz.prog 73 #[.pointer (some ⟨B, 0, none⟩), .int .i64 k] w fun e w' => e = .returned (.tuple #[.int .u32 z, .int .i64 0]) ∧ Below w.heap.size w w' := by
  have hk' : (k : Int) < (n : Int) := by omega
  have hlt := World.block_lt_of_cell? w _ h0
  simp only at hlt
  have HT : Hid _ := ht
  clear ht
  have hm2 : LbMap (w.alloc (.cells #[.int .i64 kd, .int .i64 op, .int .i64 a, .int .i64 b, .int .i64 c, .int .i64 m, .int .u32 wd, .string lab] 114)) mb ls := hm.below ((Below.refl _ _).alloc (Nat.le_refl _) _)
  have hrun := fun n => (hm2.drew n).look hg lab hl
  unfold Am.got at hrun
  rw [HFD.out, decide_eq_true hfd, if_pos hfd] at hrun
  have hw1 : IntKind.i64.wrap (fd - ((k : Int) + 1)) = fd - ((k : Int) + 1) := by rw [IntKind.wrap_i64]; omega
  clear hm hm2 hg
  go_enter Tryz.func73, Tryz.ntmps73
  go_wp2
  go_quiet (fail)
  go_wp2_with fail
  refine (HC.out _ (Tab.below HT.out ((below_drewN ((Below.refl _ _).alloc (Nat.le_refl _) _) _).setCell (Nat.le_refl _) _))).mono ?_
  rintro e w1 ⟨rfl, hb⟩
  have HB2 : Hid (Below w.heap.size w w1) := by
    refine Below.trans ((below_drewN ((Below.refl _ _).alloc (Nat.le_refl _) _) _).setCell (Nat.le_refl _) _) (hb.mono ?_)
    simp [World.setCell, World.drewN]
  clear hb
  go_wp2
  go_ret2
  exact ⟨rfl, HB2.out⟩
set_option maxHeartbeats 1000000 in
theorem word_branch_no (B g n cap k : Nat) (ln kd op a b c m wd : Int) (lab : ByteArray) (w : World) (h0 : w.cell? ⟨B, 0, none⟩ = some (.slice (some ⟨g, 0, none⟩) n cap)) (hk : k < n) (hn : n ≤ 256) (h4 : (kd == 4) = true) (h2 : (kd == 2) = false) (ht : Tab w)
    (c1 : w.cell? ⟨g, k * 9 + 1, none⟩ = some (.int .i64 kd)) (c2 : w.cell? ⟨g, k * 9 + 2, none⟩ = some (.int .i64 op)) (c3 : w.cell? ⟨g, k * 9 + 3, none⟩ = some (.int .i64 a)) (c4 : w.cell? ⟨g, k * 9 + 4, none⟩ = some (.int .i64 b)) (c5 : w.cell? ⟨g, k * 9 + 5, none⟩ = some (.int .i64 c)) (c6 : w.cell? ⟨g, k * 9 + 6, none⟩ = some (.int .i64 m)) (c7 : w.cell? ⟨g, k * 9 + 7, none⟩ = some (.int .u32 wd)) (c8 : w.cell? ⟨g, k * 9 + 8, none⟩ = some (.string lab))
    (mb : Nat) (ls : Am.Labs) (fd : Int) (h1 : w.cell? ⟨B, 1, none⟩ = some (.map (some mb))) (hm : LbMap w mb ls) (hg : Am.Good ls) (hl : lab.size ≤ 1048576) (HFD : Hid (Am.find ls lab = fd)) (hfd : 0 ≤ fd) (hfd2 : fd ≤ 256)
    (HC : Hid (∀ X, Tab X → Calls Tryz.prog 102 #[ins op a b c (fd - ((k : Int) + 1))] X fun e w' => e = .returned (.tuple #[.int .u32 0, .bool false]) ∧ Below X.heap.size X w')) :
    Calls Tryz.prog 73 #[.pointer (some ⟨B, 0, none⟩), .int .i64 k] w fun e w' => e = .returned (.tuple #[.int .u32 0, .int .i64 6]) ∧ Below w.heap.size w w' := by
  have hk' : (k : Int) < (n : Int) := by omega
  have hlt := World.block_lt_of_cell? w _ h0
  simp only at hlt
  have HT : Hid _ := ht
  clear ht
  have hm2 : LbMap (w.alloc (.cells #[.int .i64 kd, .int .i64 op, .int .i64 a, .int .i64 b, .int .i64 c, .int .i64 m, .int .u32 wd, .string lab] 114)) mb ls := hm.below ((Below.refl _ _).alloc (Nat.le_refl _) _)
  have hrun := fun n => (hm2.drew n).look hg lab hl
  unfold Am.got at hrun
  rw [HFD.out, decide_eq_true hfd, if_pos hfd] at hrun
  have hw1 : IntKind.i64.wrap (fd - ((k : Int) + 1)) = fd - ((k : Int) + 1) := by rw [IntKind.wrap_i64]; omega
  clear hm hm2 hg
  go_enter Tryz.func73, Tryz.ntmps73
  go_wp2
  go_quiet (fail)
  go_wp2_with fail
  refine (HC.out _ (Tab.below HT.out ((below_drewN ((Below.refl _ _).alloc (Nat.le_refl _) _) _).setCell (Nat.le_refl _) _))).mono ?_
  rintro e w1 ⟨rfl, hb⟩
  have HB2 : Hid (Below w.heap.size w w1) := by
    refine Below.trans ((below_drewN ((Below.refl _ _).alloc (Nat.le_refl _) _) _).setCell (Nat.le_refl _) _) (hb.mono ?_)
    simp [World.setCell, World.drewN]
  clear hb
  go_wp2
  go_ret2
  exact ⟨rfl, HB2.out⟩
end Go.Proofs.YtdjapcfejmhjnaaGreatDoor
