
/-
  A linked row read out into a list of the call's own. Conditions: the row has at most 1048576 ways.
-/
import Derived.Test.YtmbpmhmehiiiaaaRows
import Derived.Test.YtmbpmhmehiiiaaaLtk
import Derived.Test.YtmbpmhmehiiiaaaWap
namespace Go.Proofs.Ytmbpmhmehiiiaaa
open Go.ChangeShapes Go.WideShapes Go.ChangeAt Go.RowKit Go.Deep
set_option linter.unusedVariables false

def wayCells (ws : List Wy) : List Value := ws.flatMap fun x => [.int .i64 x.1, .bool x.2]
theorem wayCells_len (ws : List Wy) : (wayCells ws).length = ws.length * 2 := by
  induction ws with
  | nil => rfl
  | cons x xs ih => simp only [wayCells, List.flatMap_cons, List.length_append, List.length_cons, List.length_nil] at ih ⊢; omega
theorem wayCells_snoc (ws : List Wy) (x : Wy) : wayCells (ws ++ [x]) = wayCells ws ++ [.int .i64 x.1, .bool x.2] := by simp [wayCells]
theorem wayCells_at (ws : List Wy) (i : Nat) (hi : i < ws.length) : (wayCells ws)[i * 2]? = some (.int .i64 (ws.getD i wd).1) ∧ (wayCells ws)[i * 2 + 1]? = some (.bool (ws.getD i wd).2) := by
  induction ws generalizing i with
  | nil => simp at hi
  | cons x xs ih =>
    cases i with
    | zero => simp [wayCells]
    | succ i =>
      have := ih i (by simpa using hi)
      have e : wayCells (x :: xs) = .int .i64 x.1 :: .bool x.2 :: wayCells xs := by simp [wayCells]
      rw [e, show (i + 1) * 2 = i * 2 + 1 + 1 by omega]
      simpa using this
/-- A list of ways that the call owns, from block 'base' on. -/
def OwnW (w : World) (base : Nat) (v : Value) (ws : List Wy) : Prop := w.ownsRow base 61 2 v ws.length (wayCells ws)
theorem OwnW.new (w : World) (B : Nat) (hB : B = w.heap.size) : OwnW (w.alloc (.cells #[] 61)) B (.slice (some ⟨B, 0, none⟩) 0 0) [] := by
  subst hB
  exact ⟨rfl, .inr ⟨w.heap.size, 0, #[], rfl, Nat.le_refl _, by show (w.heap.push _)[w.heap.size]? = _; simp, Nat.le_refl _, by simp, rfl, rfl⟩⟩
theorem OwnW.below {w w' : World} {base : Nat} {v : Value} {ws : List Wy} (h : OwnW w base v ws) (hb : Below w.heap.size w w') : OwnW w' base v ws := ownsRow_below h hb
theorem OwnW.snoc {w : World} {base g cap : Nat} {ws : List Wy} {x : Wy} (h : w.ownsRow base 61 2 (.slice (some ⟨g, 0, none⟩) (ws.length + 1) cap) (ws.length + 1) (wayCells ws ++ [.int .i64 x.1, .bool x.2])) :
    OwnW w base (.slice (some ⟨g, 0, none⟩) (ws.length + 1) cap) (ws ++ [x]) := by
  unfold OwnW
  rw [wayCells_snoc]
  simpa using h
theorem OwnW.ow {w : World} {base : Nat} {v : Value} {ws : List Wy} (h : OwnW w base v ws) : ∃ a cap R, v = .slice a ws.length cap ∧ ws.length ≤ cap ∧ OW w base w.heap.size a ws R := by
  rcases h.2 with ⟨h0, h1⟩ | ⟨g, cap, cur, rfl, hb, hg, h1, h2, h3, h4⟩
  · exact ⟨none, 0, 0, by rw [h0, h1], by omega, fun h => absurd h (by omega)⟩
  · have hlt : g < w.heap.size := by
      rcases Nat.lt_or_ge g w.heap.size with hlt | hge
      · exact hlt
      · rw [Array.getElem?_eq_none hge] at hg; cases hg
    refine ⟨_, cap, g, rfl, h1, fun h0 => ⟨0, rfl, hb, hlt, hlt, fun i hi => ?_, fun i => by simp [World.frozen?, hg]⟩⟩
    have hc : ∀ j v, (wayCells ws)[j]? = some v → cur[j]? = some v := fun j v e => by
      have hj : j < (wayCells ws).length := by
        rcases Nat.lt_or_ge j (wayCells ws).length with g | g
        · exact g
        · rw [List.getElem?_eq_none g] at e; cases e
      rw [wayCells_len] at hj
      rw [← h4, List.getElem?_take, if_pos hj] at e
      simpa using e
    obtain ⟨g1, g2⟩ := wayCells_at ws i hi
    rw [Nat.zero_add]
    refine ⟨?_, ?_⟩
    · simp [World.cell?, hg, hc _ _ g1]
    · simp [World.cell?, hg, hc _ _ g2]
theorem OwnW.low {w : World} {base : Nat} {v : Value} {ws : List Wy} (h : OwnW w base v ws) : ∀ g, v.ownBlock = some g → base ≤ g := own_low h
theorem news_way (w : World) (z : Int) (d : Bool) (B : Nat) (hB : B = w.heap.size) : ∀ j u, [Value.int .i64 z, .bool d][j]? = some u → (w.alloc (.cells #[.int .i64 z, .bool d] 61)).cell? ((⟨B, 0, none⟩ : Addr).add j) = some u := by
  subst hB
  exact World.news_of_block (cs := #[.int .i64 z, .bool d]) (t := 61) (fr := (0, 0)) (by show (w.heap.push _)[w.heap.size]? = _; simp)
theorem one_way (z : Int) (d : Bool) : ∀ u ∈ [Value.int .i64 z, .bool d], u.oneCell' = true := by
  intro u hu
  simp only [List.mem_cons, List.not_mem_nil, or_false] at hu
  rcases hu with rfl | rfl <;> rfl
theorem take_snoc (ws : List Wy) (i : Nat) (hi : i < ws.length) : ws.take (i + 1) = ws.take i ++ [ws.getD i wd] := by
  rw [List.take_succ_eq_append_getElem hi]
  simp [List.getD, hi]
set_option maxHeartbeats 2000000 in
theorem row_list (hd : Nat) (bs : List Nat) (v0 : Wy) (ws : List Wy) (w : World) (hL : LL w (hd :: bs) (v0 :: ws)) (hn : ws.length ≤ 1000000) :
    Calls Try.prog 31 #[rowV hd] w fun e w' => ∃ v, e = .returned v ∧ OwnW w' (w.heap.size + 1) v ws ∧ Below w.heap.size w w' := by
  have hal1 : Below w.heap.size w (w.alloc (.cells #[.pointer (some ⟨hd, 0, none⟩)] 66)) := (Below.refl _ _).alloc (Nat.le_refl _) _
  have hal2 : Below w.heap.size w ((w.alloc (.cells #[.pointer (some ⟨hd, 0, none⟩)] 66)).alloc (.cells #[] 61)) := hal1.alloc hal1.size _
  have HL : Hid (LL w (hd :: bs) (v0 :: ws)) := hL
  have HB2 : Hid _ := hal2
  have HO2 : Hid (OwnW _ _ _ _) := OwnW.new (w.alloc (.cells #[.pointer (some ⟨hd, 0, none⟩)] 66)) (w.heap.size + 1) (by simp)
  have hlens := hL.lens
  obtain ⟨kn, hhlt⟩ := hL.next 0 hd rfl
  obtain ⟨iW, hi1, hi2, hi3, hi4⟩ := infoW'
  have HI : Hid _ := And.intro hi1 (And.intro hi2 (And.intro hi3 hi4))
  have kn2 := kept_cell hal2 kn
  obtain ⟨p0, HP0⟩ : ∃ p0 : Option Addr, Hid ((bs[0]?.map fun b => (⟨b, 0, none⟩ : Addr)) = p0) := ⟨(bs[0]?.map fun b => (⟨b, 0, none⟩ : Addr)), rfl⟩
  unfold ptrV at kn kn2
  rw [HP0.out] at kn kn2
  have hne : ¬ (hd = w.heap.size) := by omega
  have hne1 : ¬ (hd = w.heap.size + 1) := by omega
  clear hal1 hal2 hL hi1 hi2 hi3 hi4
  go_enter Try.func31, Try.ntmps31
  go_wp2
  clear kn kn2
  go_loopg [3, 4] ws.length (fun gk v at' wr => ∃ (i : Nat) (p : Option Addr) (g cp : Nat), i + gk = ws.length ∧ at' = .pointer p ∧ v = .slice (some ⟨g, 0, none⟩) i cp ∧ w.heap.size + 1 < wr.heap.size ∧ Hid ((bs[i]?.map fun b => (⟨b, 0, none⟩ : Addr)) = p ∧ Below w.heap.size w wr ∧ OwnW wr (w.heap.size + 1) (.slice (some ⟨g, 0, none⟩) i cp) (ws.take i)))
  case atStart => exact ⟨0, p0, _, _, by omega, rfl, rfl, by simp, HP0.out, HB2.out, by simpa using HO2.out⟩
  case round =>
    obtain ⟨i, p, g, cp, hig, rfl, rfl, hsz, HR⟩ := hrel
    clear HB2 HO2
    by_cases hil : i < ws.length
    rotate_left
    · obtain rfl : i = ws.length := by omega
      have hnone : bs[ws.length]? = none := List.getElem?_eq_none (by omega)
      obtain ⟨h1, h2, h3⟩ := HR.out
      rw [hnone] at h1
      simp only [Option.map_none] at h1
      subst h1
      rw [List.take_length] at h3
      have HZ : Hid _ := And.intro h2 h3
      clear h2 h3 HR hnone
      go_wp2
      go_ret
      exact ⟨_, rfl, HZ.out.2, HZ.out.1⟩
    have hib : i < bs.length := by omega
    obtain ⟨c, hc⟩ : ∃ c, bs[i]? = some c := ⟨_, List.getElem?_eq_getElem hib⟩
    obtain ⟨h1, h2, h3⟩ := HR.out
    rw [hc] at h1
    simp only [Option.map_some] at h1
    subst h1
    obtain ⟨d0, d1⟩ := LL.held HL.out i c hc
    obtain ⟨kn, hclt⟩ := LL.next HL.out (i + 1) c (by simpa using hc)
    replace d0 := kept_cell h2 d0
    replace d1 := kept_cell h2 d1
    replace kn := kept_cell h2 kn
    obtain ⟨p1, HP1⟩ : ∃ p1 : Option Addr, Hid ((bs[i + 1]?.map fun b => (⟨b, 0, none⟩ : Addr)) = p1) := ⟨(bs[i + 1]?.map fun b => (⟨b, 0, none⟩ : Addr)), rfl⟩
    unfold ptrV at kn
    rw [HP1.out] at kn
    have HTS : Hid (ws.take (i + 1) = ws.take i ++ [ws.getD i wd]) := take_snoc ws i hil
    have htl : (ws.take i).length = i := by rw [List.length_take]; omega
    generalize ws.getD i wd = x at d0 d1 HTS
    obtain ⟨z, d⟩ := x
    simp only at d0 d1
    generalize ws.take i = ys at h3 HTS htl
    have hal : Below wr.heap.size wr (wr.alloc (.cells #[.int .i64 z, .bool d] 61)) := (Below.refl _ _).alloc (Nat.le_refl _) _
    have hown2 : (wr.alloc (.cells #[.int .i64 z, .bool d] 61)).ownsRow (w.heap.size + 1) 61 2 (.slice (some ⟨g, 0, none⟩) i cp) ys.length (wayCells ys) := OwnW.below h3 hal
    have hlow := own_low hown2
    have hcw : c < w.heap.size := (LL.lt HL.out) c (by simp [List.mem_of_getElem? hc])
    have HZ : Hid (∀ (gg cap1 : Nat) (w9 : World), w9.ownsRow (w.heap.size + 1) 61 2 (.slice (some ⟨gg, 0, none⟩) (ys.length + 1) cap1) (ys.length + 1) (wayCells ys ++ [.int .i64 z, .bool d]) → (wr.alloc (.cells #[.int .i64 z, .bool d] 61)).grownBy w9 (Value.slice (some ⟨g, 0, none⟩) i cp).ownBlock → Below w.heap.size w w9 ∧ OwnW w9 (w.heap.size + 1) (.slice (some ⟨gg, 0, none⟩) (i + 1) cap1) (ws.take (i + 1)) ∧ w.heap.size + 1 < w9.heap.size ∧ w9.cell? ⟨c, 2, none⟩ = some (.pointer p1)) := fun gg cap1 w9 q1 q2 => by
      have hb6 := h2.trans (hal.mono h2.size)
      have hb9 := Below.grown hb6 q2 hb6.size (fun g e => by have := hlow g e; omega)
      rw [HTS.out]
      subst htl
      refine ⟨hb9, OwnW.snoc q1, Nat.lt_of_lt_of_le hsz (Nat.le_trans hal.size q2.size), ?_⟩
      have hk := q2.block c (by simp; omega) (fun e => by have := hlow c e.symm; omega)
      exact (World.cell?_of_block (a := ⟨c, 2, none⟩) hk).trans (kept_cell hal kn)
    have HTL : Hid _ := htl
    clear h2 h3 hal hlow HR htl hc
    go_wp2_with (at_builtin; (refine wpList_append_lies _ rfl (.tmp 17) (.tmp 22) 68 rfl (w.heap.size + 1) 61 iW (.agg #[.int .i64 0, .bool false]) 2 16 Try.underlying68 HI.out.1 HI.out.2.1 HI.out.2.2.1 HI.out.2.2.2 rfl (by omega) _ _ _ rfl hown2 _ 1 1 [.int .i64 z, .bool d] rfl rfl (news_way _ _ _ _ rfl) (one_way _ _) (by omega) (by unfold maxLen; rw [HTL.out]; omega) (by rw [HTL.out]; omega) (by simp; omega) _ rfl ?_; intro gg cap1 w9 hown1 hgrow hat hlt1; have HY : Hid _ := HZ.out gg cap1 w9 hown1 hgrow; have kn9 := (HZ.out gg cap1 w9 hown1 hgrow).2.2.2; clear hown1 hgrow hat hlt1; rw [HTL.out]))
    go_roundg (gk - 1)
    case measure => omega
    case rel => exact ⟨i + 1, p1, gg, cap1, by omega, rfl, rfl, HY.out.2.2.1, HP1.out, HY.out.1, HY.out.2.1⟩
end Go.Proofs.Ytmbpmhmehiiiaaa
