/-
  What the specification's l02Set returns: the numbers above 0 of a list of one or two, ascending, none twice. Conditions: the list lies in memory.
-/
import Derived.Test.YtiekejplgoomfabDoorLists
import Derived.Test.YtiekejplgoomfabDoorSets
import Derived.Deep.AppendLies
import Derived.OwnWalk
namespace Go.Proofs.YtiekejplgoomfabDoor
open Go.ChangeShapes Go.WideShapes Go.ChangeAt Go.RowKit
set_option linter.unusedVariables false

theorem info3 : (Tryd.prog.info? 3).map (fun i => (i.zero, i.size, i.bytes)) = some (some (.int .i64 0), 1, 8) := by kernel_rfl
theorem info3' : ∃ i, Tryd.prog.info? 3 = some i ∧ i.zero = some (.int .i64 0) ∧ i.size = 1 ∧ i.bytes = 8 := by
  obtain ⟨i, hi, h⟩ := Option.map_eq_some_iff.1 info3
  simp only [Prod.mk.injEq] at h
  exact ⟨i, hi, h.1, h.2.1, h.2.2⟩
def hits (zs : List Int) (k : Nat) : List Int := ((List.range k).map fun (i : Nat) => (i : Int) + 1).filter fun r => zs.contains r
theorem hits_succ (zs : List Int) (k : Nat) : hits zs (k + 1) = hits zs k ++ (if zs.contains ((k : Int) + 1) then [(k : Int) + 1] else []) := by
  unfold hits
  rw [List.range_succ, List.map_append, List.filter_append]
  congr 1
  simp only [List.map_cons, List.map_nil, List.filter_cons, List.filter_nil]
theorem hits_len (zs : List Int) (k : Nat) : (hits zs k).length ≤ k := by
  unfold hits
  exact Nat.le_trans (List.length_filter_le _ _) (by simp)
/-- A list that the call owns, from block 'base' on. -/
def OwnL (w : World) (base : Nat) (v : Value) (zs : List Int) : Prop := w.ownsRow base 3 1 v zs.length (zs.map (Value.int .i64))
theorem OwnL.nil (w : World) : OwnL (w.alloc (.cells #[] 3)) w.heap.size (.slice (some ⟨w.heap.size, 0, none⟩) 0 0) [] :=
  ⟨rfl, .inr ⟨w.heap.size, 0, #[], rfl, Nat.le_refl _, by show (w.heap.push _)[w.heap.size]? = _; simp, Nat.le_refl _, by simp, rfl, rfl⟩⟩
theorem OwnL.seg {w : World} {base : Nat} {v : Value} {zs : List Int} (h : OwnL w base v zs) : ∃ a cap, v = .slice a zs.length cap ∧ Seg .i64 w a zs := by
  rcases h.2 with ⟨h0, h1⟩ | ⟨g, cap, cur, rfl, hb, hg, h1, h2, h3, h4⟩
  · exact ⟨none, 0, by rw [h0, h1], fun h => absurd h (by omega)⟩
  · refine ⟨_, _, rfl, fun h0 => ⟨g, 0, rfl, ?_, fun i hi => ?_⟩⟩
    · rcases Nat.lt_or_ge g w.heap.size with hlt | hge
      · exact hlt
      · rw [Array.getElem?_eq_none hge] at hg; cases hg
    · rw [Nat.zero_add]
      have e : cur[i]? = some (.int .i64 (zs.getD i 0)) := by
        have := congrArg (·[i]?) h4
        simp only [Nat.mul_one] at this
        rw [List.getElem?_take, if_pos hi] at this
        simpa [hi, List.getD] using this
      simp [World.cell?, hg, e]
theorem OwnL.block {w : World} {base : Nat} {v : Value} {zs : List Int} (h : OwnL w base v zs) : ∀ k, v.ownBlock = some k → base ≤ k := by
  rcases h.2 with ⟨h0, h1⟩ | ⟨g, cap, cur, rfl, hb, hg, h1, h2, h3, h4⟩
  · subst h0; intro k hk; cases hk
  · intro k hk; cases hk; exact hb
theorem OwnL.snoc {w : World} {base g cap : Nat} {zs : List Int} {r : Int} (h : w.ownsRow base 3 1 (.slice (some ⟨g, 0, none⟩) (zs.length + 1) cap) (zs.length + 1) (zs.map (Value.int .i64) ++ [.int .i64 r])) :
    OwnL w base (.slice (some ⟨g, 0, none⟩) (zs.length + 1) cap) (zs ++ [r]) := by
  unfold OwnL
  simpa using h
theorem news1 (w : World) (v : Value) : ∀ j u, [v][j]? = some u → (w.alloc (.cells #[v] 3)).cell? ((⟨w.heap.size, 0, none⟩ : Addr).add j) = some u :=
  World.news_of_block (cs := #[v]) (t := 3) (fr := (0, 0)) (by show (w.heap.push _)[w.heap.size]? = _; simp)
theorem one1 (r : Int) : ∀ u ∈ [Value.int .i64 r], u.oneCell' = true := by
  intro u hu
  simp only [List.mem_singleton] at hu
  subst hu
  rfl
set_option maxHeartbeats 1000000 in
theorem set_one (x : Int) (b cap : Nat) (w : World) (c0 : w.cell? ⟨b, 0, none⟩ = some (.int .i64 x)) :
    Calls Tryd.prog 15 #[.slice (some ⟨b, 0, none⟩) 1 cap] w fun e w' => ∃ a cap, e = .returned (.slice a (setOf [x]).length cap) ∧ Seg .i64 w' a (setOf [x]) ∧ Below w.heap.size w w' := by
  obtain ⟨i3, hi3, hz3, hs3, hb3⟩ := info3'
  have HI : Hid _ := And.intro hi3 (And.intro hz3 (And.intro hs3 hb3))
  have hlt := World.block_lt_of_cell? w _ c0
  have HE : Hid (hits [x] 15 = setOf [x]) := rfl
  clear hi3 hz3 hs3 hb3
  go_enter Tryd.func15, Tryd.ntmps15
  go_wp2
  go_loopw [3, 4] (fun v i wr => ∃ k : Nat, k ≤ 15 ∧ i = .int .i64 ((k : Int) + 1) ∧ Hid (OwnL wr w.heap.size v (hits [x] k) ∧ Below w.heap.size w wr)) (fun _ i _ => 16 - (intOf i).toNat)
  case atStart => exact ⟨0, by omega, by go_num, OwnL.nil w, (Below.refl _ _).alloc (Nat.le_refl _) _⟩
  case round =>
    obtain ⟨k, hk, rfl, HR⟩ := hrel
    by_cases hkt : k < 15
    · obtain ⟨hown, hb⟩ := HR.out
      have d0 := (hb.cell (p := ⟨b, 0, none⟩) hlt).trans c0
      have hlen := hits_len [x] k
      clear c0
      cases e0 : (x == (k : Int) + 1)
      · have e0' : ((k : Int) + 1 == x) = false := by rw [BEq.comm]; exact e0
        have HS : Hid (hits [x] (k + 1) = hits [x] k) := by
          show _ = _
          rw [hits_succ, if_neg (by rw [Bool.not_eq_true]; simp only [List.contains_cons, List.contains_nil, Bool.or_false]; exact e0'), List.append_nil]
        clear hb hlen hown e0'
        go_wp2
        refine wp_loop_rounds 2 ?_
        rw [rounds_succ]
        go_wp2
        rw [rounds_succ]
        go_wp2
        go_roundw
        case rel => exact ⟨k + 1, by omega, by go_num, by rw [HS.out]; exact HR.out.1, HR.out.2⟩
        case measure => simp [intOf]; omega
      · have e0' : ((k : Int) + 1 == x) = true := by rw [BEq.comm]; exact e0
        have HS : Hid (hits [x] (k + 1) = hits [x] k ++ [(k : Int) + 1]) := by
          show _ = _
          rw [hits_succ, if_pos (by simp only [List.contains_cons, Bool.or_eq_true]; exact .inl e0')]
        have HN : Hid _ := And.intro hown (And.intro hlen hb)
        generalize hits [x] k = zs at hown hlen HN HS
        clear hb hlen HR e0'
        go_wp2
        refine wp_loop_rounds 1 ?_
        rw [rounds_succ]
        go_wp2_with (at_builtin; refine wpList_append_lies _ rfl (.tmp 23) (.tmp 25) 24 rfl w.heap.size 3 i3 (.int .i64 0) 1 8 Tryd.underlying24 HI.out.1 HI.out.2.1 HI.out.2.2.1 HI.out.2.2.2 rfl (by omega) _ _ _ rfl (World.ownsRow.alloc hown _) _ 1 1 [.int .i64 ((k : Int) + 1)] rfl rfl (news1 _ _) (one1 _) (by omega) (by have := HN.out.2.1; unfold maxLen; omega) (by have := HN.out.2.1; omega) (by have := HN.out.2.2.size; simp; omega) _ rfl ?_; intro g cap1 w1 hown1 hgrow hat hlt1)
        go_roundw
        case rel =>
          refine ⟨k + 1, by omega, by go_num, ?_, ?_⟩
          · rw [HS.out]; exact OwnL.snoc hown1
          · exact (HN.out.2.2.alloc HN.out.2.2.size _).grown hgrow (by have := HN.out.2.2.size; simp; omega) (OwnL.block HN.out.1)
        case measure => simp [intOf]; omega
    · obtain rfl : k = 15 := by omega
      obtain ⟨hown, hb⟩ := HR.out
      rw [HE.out] at hown
      obtain ⟨a, cap1, rfl, hs⟩ := hown.seg
      clear HR
      go_wp2
      go_ret
      exact ⟨a, cap1, rfl, hs, hb⟩
set_option maxHeartbeats 1000000 in
theorem set_two (x y : Int) (b cap : Nat) (w : World) (c0 : w.cell? ⟨b, 0, none⟩ = some (.int .i64 x)) (c1 : w.cell? ⟨b, 1, none⟩ = some (.int .i64 y)) :
    Calls Tryd.prog 15 #[.slice (some ⟨b, 0, none⟩) 2 cap] w fun e w' => ∃ a cap, e = .returned (.slice a (setOf [x, y]).length cap) ∧ Seg .i64 w' a (setOf [x, y]) ∧ Below w.heap.size w w' := by
  obtain ⟨i3, hi3, hz3, hs3, hb3⟩ := info3'
  have HI : Hid _ := And.intro hi3 (And.intro hz3 (And.intro hs3 hb3))
  have hlt := World.block_lt_of_cell? w _ c0
  have HE : Hid (hits [x, y] 15 = setOf [x, y]) := rfl
  clear hi3 hz3 hs3 hb3
  go_enter Tryd.func15, Tryd.ntmps15
  go_wp2
  go_loopw [3, 4] (fun v i wr => ∃ k : Nat, k ≤ 15 ∧ i = .int .i64 ((k : Int) + 1) ∧ Hid (OwnL wr w.heap.size v (hits [x, y] k) ∧ Below w.heap.size w wr)) (fun _ i _ => 16 - (intOf i).toNat)
  case atStart => exact ⟨0, by omega, by go_num, OwnL.nil w, (Below.refl _ _).alloc (Nat.le_refl _) _⟩
  case round =>
    obtain ⟨k, hk, rfl, HR⟩ := hrel
    by_cases hkt : k < 15
    · obtain ⟨hown, hb⟩ := HR.out
      have d0 := (hb.cell (p := ⟨b, 0, none⟩) hlt).trans c0
      have d1 := (hb.cell (p := ⟨b, 1, none⟩) hlt).trans c1
      have hlen := hits_len [x, y] k
      clear c0 c1
      cases e0 : (x == (k : Int) + 1)
      · have e0' : ((k : Int) + 1 == x) = false := by rw [BEq.comm]; exact e0
        cases e1 : (y == (k : Int) + 1)
        · have e1' : ((k : Int) + 1 == y) = false := by rw [BEq.comm]; exact e1
          have HS : Hid (hits [x, y] (k + 1) = hits [x, y] k) := by
            show _ = _
            rw [hits_succ, if_neg (by rw [Bool.not_eq_true]; simp only [List.contains_cons, List.contains_nil, Bool.or_false, Bool.or_eq_false_iff]; exact ⟨e0', e1'⟩), List.append_nil]
          clear hb hlen hown e0' e1'
          go_wp2
          refine wp_loop_rounds 3 ?_
          rw [rounds_succ]
          go_wp2
          rw [rounds_succ]
          go_wp2
          rw [rounds_succ]
          go_wp2
          go_roundw
          case rel => exact ⟨k + 1, by omega, by go_num, by rw [HS.out]; exact HR.out.1, HR.out.2⟩
          case measure => simp [intOf]; omega
        · have e1' : ((k : Int) + 1 == y) = true := by rw [BEq.comm]; exact e1
          have HS : Hid (hits [x, y] (k + 1) = hits [x, y] k ++ [(k : Int) + 1]) := by
            show _ = _
            rw [hits_succ, if_pos (by simp only [List.contains_cons, Bool.or_eq_true]; exact .inr (.inl e1'))]
          have HN : Hid _ := And.intro hown (And.intro hlen hb)
          generalize hits [x, y] k = zs at hown hlen HN HS
          clear hb hlen HR e0' e1'
          go_wp2
          refine wp_loop_rounds 2 ?_
          rw [rounds_succ]
          go_wp2
          rw [rounds_succ]
          go_wp2_with (at_builtin; refine wpList_append_lies _ rfl (.tmp 23) (.tmp 25) 24 rfl w.heap.size 3 i3 (.int .i64 0) 1 8 Tryd.underlying24 HI.out.1 HI.out.2.1 HI.out.2.2.1 HI.out.2.2.2 rfl (by omega) _ _ _ rfl (World.ownsRow.alloc hown _) _ 1 1 [.int .i64 ((k : Int) + 1)] rfl rfl (news1 _ _) (one1 _) (by omega) (by have := HN.out.2.1; unfold maxLen; omega) (by have := HN.out.2.1; omega) (by have := HN.out.2.2.size; simp; omega) _ rfl ?_; intro g cap1 w1 hown1 hgrow hat hlt1)
          go_roundw
          case rel =>
            refine ⟨k + 1, by omega, by go_num, ?_, ?_⟩
            · rw [HS.out]; exact OwnL.snoc hown1
            · exact (HN.out.2.2.alloc HN.out.2.2.size _).grown hgrow (by have := HN.out.2.2.size; simp; omega) (OwnL.block HN.out.1)
          case measure => simp [intOf]; omega
      · have e0' : ((k : Int) + 1 == x) = true := by rw [BEq.comm]; exact e0
        have HS : Hid (hits [x, y] (k + 1) = hits [x, y] k ++ [(k : Int) + 1]) := by
          show _ = _
          rw [hits_succ, if_pos (by simp only [List.contains_cons, Bool.or_eq_true]; exact .inl e0')]
        have HN : Hid _ := And.intro hown (And.intro hlen hb)
        generalize hits [x, y] k = zs at hown hlen HN HS
        clear hb hlen HR e0'
        go_wp2
        refine wp_loop_rounds 1 ?_
        rw [rounds_succ]
        go_wp2_with (at_builtin; refine wpList_append_lies _ rfl (.tmp 23) (.tmp 25) 24 rfl w.heap.size 3 i3 (.int .i64 0) 1 8 Tryd.underlying24 HI.out.1 HI.out.2.1 HI.out.2.2.1 HI.out.2.2.2 rfl (by omega) _ _ _ rfl (World.ownsRow.alloc hown _) _ 1 1 [.int .i64 ((k : Int) + 1)] rfl rfl (news1 _ _) (one1 _) (by omega) (by have := HN.out.2.1; unfold maxLen; omega) (by have := HN.out.2.1; omega) (by have := HN.out.2.2.size; simp; omega) _ rfl ?_; intro g cap1 w1 hown1 hgrow hat hlt1)
        go_roundw
        case rel =>
          refine ⟨k + 1, by omega, by go_num, ?_, ?_⟩
          · rw [HS.out]; exact OwnL.snoc hown1
          · exact (HN.out.2.2.alloc HN.out.2.2.size _).grown hgrow (by have := HN.out.2.2.size; simp; omega) (OwnL.block HN.out.1)
        case measure => simp [intOf]; omega
    · obtain rfl : k = 15 := by omega
      obtain ⟨hown, hb⟩ := HR.out
      rw [HE.out] at hown
      obtain ⟨a, cap1, rfl, hs⟩ := hown.seg
      clear HR
      go_wp2
      go_ret
      exact ⟨a, cap1, rfl, hs, hb⟩
end Go.Proofs.YtiekejplgoomfabDoor
