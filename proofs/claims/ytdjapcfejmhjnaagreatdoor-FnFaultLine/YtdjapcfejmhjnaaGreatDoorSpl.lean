/-
  What the specification's l01Split returns: the words of a line. Condition: the line is at most 1048576 bytes long.
-/
import Derived.Test.YtdjapcfejmhjnaaGreatDoorRdx
import Derived.Deep.AppendLies
import Derived.OwnWalk
namespace Go.Proofs.YtdjapcfejmhjnaaGreatDoor
open Go.ChangeShapes Go.WideShapes Go.ChangeAt Go.RowKit Go.Deep
set_option linter.unusedVariables false
set_option maxRecDepth 20000

theorem info9 : (Tryz.prog.info? 9).map (fun i => (i.zero, i.size, i.bytes)) = some (some (.string ⟨#[]⟩), 1, 16) := by kernel_rfl
theorem info9' : ∃ i, Tryz.prog.info? 9 = some i ∧ i.zero = some (.string ⟨#[]⟩) ∧ i.size = 1 ∧ i.bytes = 16 := by
  obtain ⟨i, hi, h⟩ := Option.map_eq_some_iff.1 info9
  simp only [Prod.mk.injEq] at h
  exact ⟨i, hi, h.1, h.2.1, h.2.2⟩
/-- A list of texts that the call owns, from block 'base' on. -/
def OwnS (w : World) (base : Nat) (v : Value) (ws : List ByteArray) : Prop := w.ownsRow base 9 1 v ws.length (ws.map Value.string)
theorem OwnS.nil (w : World) : OwnS (w.alloc (.cells #[] 9)) w.heap.size (.slice (some ⟨w.heap.size, 0, none⟩) 0 0) [] :=
  ⟨rfl, .inr ⟨w.heap.size, 0, #[], rfl, Nat.le_refl _, by show (w.heap.push _)[w.heap.size]? = _; simp, Nat.le_refl _, by simp, rfl, rfl⟩⟩
theorem OwnS.flds {w : World} {base : Nat} {v : Value} {ws : List ByteArray} (h : OwnS w base v ws) : ∃ a cap, v = .slice a ws.length cap ∧ ws.length ≤ cap ∧ Flds w a ws := by
  rcases h.2 with ⟨h0, h1⟩ | ⟨g, cap, cur, rfl, hb, hg, h1, h2, h3, h4⟩
  · exact ⟨none, 0, by rw [h0, h1], by omega, fun h => absurd h (by omega)⟩
  · refine ⟨_, _, rfl, h1, fun h0 => ⟨g, 0, rfl, ?_, fun i x hi => ?_⟩⟩
    · rcases Nat.lt_or_ge g w.heap.size with hlt | hge
      · exact hlt
      · rw [Array.getElem?_eq_none hge] at hg; cases hg
    · rw [Nat.zero_add]
      have hil : i < ws.length := by
        rcases Nat.lt_or_ge i ws.length with h | h
        · exact h
        · rw [List.getElem?_eq_none h] at hi; cases hi
      have e : cur[i]? = some (.string x) := by
        have := congrArg (·[i]?) h4
        simp only [Nat.mul_one] at this
        rw [List.getElem?_take, if_pos hil, List.getElem?_map, hi] at this
        simpa using this
      simp [World.cell?, hg, e]
theorem OwnS.block {w : World} {base : Nat} {v : Value} {ws : List ByteArray} (h : OwnS w base v ws) : ∀ k, v.ownBlock = some k → base ≤ k := by
  rcases h.2 with ⟨h0, h1⟩ | ⟨g, cap, cur, rfl, hb, hg, h1, h2, h3, h4⟩
  · subst h0; intro k hk; cases hk
  · intro k hk; cases hk; exact hb
theorem OwnS.snoc {w : World} {base g cap : Nat} {ws : List ByteArray} {r : ByteArray} (h : w.ownsRow base 9 1 (.slice (some ⟨g, 0, none⟩) (ws.length + 1) cap) (ws.length + 1) (ws.map Value.string ++ [.string r])) :
    OwnS w base (.slice (some ⟨g, 0, none⟩) (ws.length + 1) cap) (ws ++ [r]) := by
  unfold OwnS
  simpa using h
theorem newsS (w : World) (v : Value) : ∀ j u, [v][j]? = some u → (w.alloc (.cells #[v] 9)).cell? ((⟨w.heap.size, 0, none⟩ : Addr).add j) = some u :=
  World.news_of_block (cs := #[v]) (t := 9) (fr := (0, 0)) (by show (w.heap.push _)[w.heap.size]? = _; simp)
theorem oneS (r : ByteArray) : ∀ u ∈ [Value.string r], u.oneCell' = true := by
  intro u hu
  simp only [List.mem_singleton] at hu
  subst hu
  rfl
namespace Sp
def mk (l : List UInt8) : ByteArray := ⟨l.toArray⟩
theorem mk_extract (s : ByteArray) (f i : Nat) : mk ((s.data.toList.take i).drop f) = s.extract f i := by
  apply ByteArray.ext
  apply Array.toList_inj.1
  rw [ByteArray.data_extract, Array.toList_extract, List.drop_take]
  rfl
theorem mk_end (s : ByteArray) (f : Nat) : mk (s.data.toList.drop f) = s.extract f s.size := by
  rw [← mk_extract, show s.data.toList.take s.size = s.data.toList from List.take_of_length_le (Nat.le_refl s.size)]
end Sp
set_option maxHeartbeats 2000000 in
theorem spec_split (s : ByteArray) (w : World) (hs : s.size ≤ 1048576) :
    Calls Tryz.prog 83 #[.string s] w fun e w' => ∃ a cap, e = .returned (.slice a (Sp.texts 32 s).length cap) ∧ (Sp.texts 32 s).length ≤ cap ∧ Flds w' a (Sp.texts 32 s) ∧ Below w.heap.size w w' := by
  obtain ⟨i9, hi9, hz9, hs9, hb9⟩ := info9'
  have HI : Hid _ := And.intro hi9 (And.intro hz9 (And.intro hs9 hb9))
  clear hi9 hz9 hs9 hb9
  have hzz : s.data.toList.length = s.size := rfl
  have HZ : Hid _ := hzz
  clear hzz
  go_enter Tryz.func83, Tryz.ntmps83
  go_wp2
  go_loopw [3, 4, 5] (fun v fr i wr => ∃ (k f : Nat) (done : List (List UInt8)), k ≤ s.size ∧ f ≤ k ∧ fr = .int .i64 f ∧ i = .int .i64 k ∧ done.length ≤ k ∧ Hid (OwnS wr w.heap.size v (done.map Sp.mk) ∧ Below w.heap.size w wr ∧ Sp.At 32 s.data.toList k f done)) (fun _ _ i _ => s.size - (intOf i).toNat)
  case atStart => exact ⟨0, 0, [], by omega, by omega, rfl, rfl, by simp, OwnS.nil w, (Below.refl _ _).alloc (Nat.le_refl _) _, Sp.at_start _ _⟩
  case round =>
    obtain ⟨k, f, done, hk, hf, rfl, rfl, hd, HR⟩ := hrel
    by_cases hlt : k < s.size
    · have hlt' : (k : Int) < (s.size : Int) := by omega
      by_cases hc : s[k] = 32
      · have hc' : ((s[k].toNat : Int) == 32) = true := by rw [hc]; rfl
        have HA : Hid _ := Sp.at_hit HR.out.2.2 (by rw [HZ.out]; exact hlt) hc
        have hown := HR.out.1
        have HN : Hid _ := And.intro HR.out.1 HR.out.2.1
        have HT : Hid _ := Sp.mk_extract s f k
        have HL : Hid ((done.map Sp.mk).length = done.length) := List.length_map ..
        have hdl : (done.map Sp.mk).length ≤ 1048576 := by rw [HL.out]; omega
        clear hc
        go_wp2_with (at_builtin; refine wpList_append_lies _ rfl (.tmp 17) (.tmp 22) 65 rfl w.heap.size 9 i9 (.string ⟨#[]⟩) 1 16 Tryz.underlying65 HI.out.1 HI.out.2.1 HI.out.2.2.1 HI.out.2.2.2 rfl (by omega) _ _ _ rfl (World.ownsRow.alloc hown _) _ 1 1 [.string (s.extract f k)] rfl rfl (newsS _ _) (oneS _) (by omega) (by unfold maxLen; omega) (by omega) (by have := HN.out.2.size; simp; omega) _ rfl ?_; intro g cap1 w1 hown1 hgrow hat hlt1)
        go_wp2
        go_roundw
        case rel =>
          refine ⟨k + 1, k + 1, _, by omega, by omega, by go_num, by go_num, ?_, ?_, ?_, HA⟩
          · simp; omega
          · rw [List.map_append, List.map_cons, List.map_nil, HT.out]
            have h3 := OwnS.snoc hown1
            rw [HL.out] at h3
            exact h3
          · exact (HN.out.2.alloc HN.out.2.size _).grown hgrow (by have := HN.out.2.size; simp; omega) (OwnS.block HN.out.1)
        case measure => simp [intOf]; omega
      · have hc' : ((s[k].toNat : Int) == 32) = false := by
          rw [beq_eq_false_iff_ne]
          intro e
          apply hc
          rw [← UInt8.toNat_inj]
          simpa using (by omega : s[k].toNat = 32)
        have HA : Hid _ := Sp.at_miss HR.out.2.2 (by rw [HZ.out]; exact hlt) hc
        clear hc
        go_wp2
        go_roundw
        case rel => exact ⟨k + 1, f, done, by omega, by omega, rfl, by go_num, by omega, HR.out.1, HR.out.2.1, HA⟩
        case measure => simp [intOf]; omega
    · obtain rfl : k = s.size := by omega
      have HE : Hid (Sp.texts 32 s = done.map Sp.mk ++ [s.extract f s.size]) := by
        show _ = _
        have := Sp.at_end (show Sp.At 32 s.data.toList s.data.toList.length f done from HR.out.2.2)
        unfold Sp.texts
        rw [this, List.map_append, List.map_cons, List.map_nil, ← Sp.mk_end]
        rfl
      have hown := HR.out.1
      have HN : Hid _ := And.intro HR.out.1 HR.out.2.1
      have HL : Hid ((done.map Sp.mk).length = done.length) := List.length_map ..
      have hdl : (done.map Sp.mk).length ≤ 1048576 := by rw [HL.out]; omega
      go_wp2_with (at_builtin; refine wpList_append_lies _ rfl (.tmp 26) (.tmp 30) 65 rfl w.heap.size 9 i9 (.string ⟨#[]⟩) 1 16 Tryz.underlying65 HI.out.1 HI.out.2.1 HI.out.2.2.1 HI.out.2.2.2 rfl (by omega) _ _ _ rfl (World.ownsRow.alloc hown _) _ 1 1 [.string (s.extract f s.size)] rfl rfl (newsS _ _) (oneS _) (by omega) (by unfold maxLen; omega) (by omega) (by have := HN.out.2.size; simp; omega) _ rfl ?_; intro g cap1 w1 hown1 hgrow hat hlt1)
      have HB : Hid _ := (HN.out.2.alloc HN.out.2.size _).grown hgrow (by have := HN.out.2.size; simp; omega) (OwnS.block HN.out.1)
      have HO : Hid _ := OwnS.snoc hown1
      clear hgrow hown1 hown hat
      go_wp2
      go_ret
      have h2 := HO.out
      rw [← HE.out] at h2
      obtain ⟨a, cap, e1, e2, e3⟩ := OwnS.flds h2
      rw [HL.out] at e1
      exact ⟨a, cap, ret_val e1, e2, e3, HB.out⟩
end Go.Proofs.YtdjapcfejmhjnaaGreatDoor
