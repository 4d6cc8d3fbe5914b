/-
  What the drawn list of words is: some list of at most 39 words, in memory of its own. Conditions: the bytes drawn from are at most 1048576.
-/
import Derived.Test.YtbapnfocifnacadFold
import Derived.WalkSpells
namespace Go.Proofs.Ytbapnfocifnacad
open Go.ChangeShapes Go.WideShapes Go.ChangeAt Go.RowKit Go.Deep
set_option linter.unusedVariables false

theorem owns_empty (w : World) (base : Nat) (T : TypeId) (hb : base ≤ w.heap.size) : (w.alloc (.cells #[] T)).ownsRow base T 1 (.slice (some ⟨w.heap.size, 0, none⟩) 0 0) 0 [] :=
  World.ownsRow_made (size := 1) (e := T) w #[] 0 hb (by decide) (by simp)
theorem Cur.belowC {w w' : World} {B C : Nat} {a : Option Addr} {zs : List Int} {cap : Nat} (h : Cur w B a zs cap) (hb : Below C w w') (hB : B < C) (ha : ∀ b off, a = some ⟨b, off, none⟩ → 0 < zs.length → b < C) : Cur w' B a zs cap := by
  have hc : ∀ o, w'.cell? ⟨B, o, none⟩ = w.cell? ⟨B, o, none⟩ := fun o => hb.cell (p := ⟨B, o, none⟩) hB
  refine ⟨Nat.lt_of_lt_of_le h.lt hb.size, (hc 0).trans h.c0, ?_, ?_, fun i => (hb.frozen (p := ⟨B, i, none⟩) hB).trans (h.free i), ?_, h.far, h.byte, h.small⟩
  · obtain ⟨i, hi, e⟩ := h.c1
    exact ⟨i, hi, (hc 1).trans e⟩
  · obtain ⟨x, e⟩ := h.c2
    exact ⟨x, (hc 2).trans e⟩
  · intro h0
    obtain ⟨b, off, e, hlt, hcl⟩ := h.seg h0
    exact ⟨b, off, e, Nat.lt_of_lt_of_le hlt hb.size, fun i hi => (hb.cell (p := ⟨b, off + i, none⟩) (ha b off e h0)).trans (hcl i hi)⟩
theorem Turn.then_below {B : Nat} {a b c : World} (h : Turn B a b) (hb : Below a.heap.size b c) : Turn B a c :=
  ⟨hb.os.trans h.os, hb.tape.trans h.tape, hb.output.trans h.output, Nat.le_trans h.size hb.size, fun k hk hn => (hb.block k hk).trans (h.block k hk hn)⟩
theorem wf_u32 (x : Int) (h0 : 0 ≤ x) (h1 : x ≤ 4294967295) : (Lit.int .u32 x).wf = true := by
  simp [Lit.wf, IntKind.min, IntKind.max, IntKind.bits, IntKind.signed]
  omega
set_option maxHeartbeats 1000000 in
theorem draw_words (w : World) (B : Nat) (a : Option Addr) (zs : List Int) (cap : Nat) (n : Int) (hc : Cur w B a zs cap) (h0 : 0 ≤ n) (h1 : n ≤ 40) :
    Calls Try.prog 11 #[.pointer (some ⟨B, 0, none⟩), .int .i64 n] w fun e w' => ∃ (v : Value) (ys : List Int), e = .returned v ∧ v ≠ .slice none 0 0 ∧ w'.ownsRow w.heap.size 26 1 v ys.length (ys.map (Value.int .u32)) ∧ (∀ y ∈ ys, (Lit.int .u32 y).wf = true) ∧ ys.length ≤ 40 ∧ Turn B w w' := by
  obtain ⟨i0, hi, hz0, hz1, hz2⟩ := info_parts info26
  have hlt := hc.lt
  obtain ⟨W, HW⟩ : ∃ W, Hid (W = w.heap.size) := ⟨_, rfl⟩
  have hWB : B < W := by rw [HW.out]; exact hlt
  have HA : Hid (∀ b off, a = some ⟨b, off, none⟩ → 0 < zs.length → b < W) := by
    intro b off e hz
    obtain ⟨b2, o2, e2, hl2, _⟩ := hc.seg hz
    rw [e] at e2
    injection e2 with e2
    injection e2 with e3
    rw [HW.out, e3]
    exact hl2
  clear hlt
  go_enter Try.func11, Try.ntmps11
  go_wp2
  go_loopw [5, 6] (fun v i wr => ∃ (k : Nat) (ys : List Int), (k : Int) ≤ n ∧ i = .int .i64 k ∧ v ≠ .slice none 0 0 ∧ wr.ownsRow W 26 1 v ys.length (ys.map (Value.int .u32)) ∧ Hid (∀ y ∈ ys, (Lit.int .u32 y).wf = true) ∧ ys.length = k ∧ Cur wr B a zs cap ∧ Turn B w wr) (fun _ i _ => n.toNat - (intOf i).toNat)
  case atStart => exact ⟨0, [], by omega, rfl, by simp, by rw [HW.out]; exact owns_empty w _ 26 (Nat.le_refl _), by simp [Hid], rfl, hc.below ((Below.refl _ _).alloc (Nat.le_refl _) _), (Turn.refl _ _).alloc _⟩
  case round =>
    obtain ⟨k, ys, hk, rfl, hv, hown, HY, HK, hcur, hturn⟩ := hrel
    have HK2 : Hid _ := HK
    clear HK
    by_cases hlt : (k : Int) < n
    · go_wp2_with fail
      refine (draw_word _ _ _ _ _ hcur).mono ?_
      rintro e w1 ⟨x, rfl, hx0, hx1, hc1, ht1⟩
      have hown1 := hown.kept ht1.grown (by
        right
        rcases hown.2 with ⟨e1, _⟩ | ⟨g, cp, cur, rfl, hb, _⟩
        · exact absurd e1 hv
        · simp [Value.ownBlock]; omega)
      have hsz1 : W ≤ w1.heap.size := by rw [HW.out]; exact Nat.le_trans hturn.size ht1.size
      have hyl : ys.length ≤ 40 := by have := HK2.out; omega
      clear hown hcur
      go_wp2_with (at_builtin; refine wpList_append_own _ rfl _ _ 24 rfl W 26 i0 (.int .u32 0) 1 4 Try.underlying24 hi hz0 hz1 hz2 rfl (by decide) _ _ _ rfl (hown1.alloc _) ⟨w1.heap.size, 0, none⟩ 1 1 [.int .u32 x] rfl rfl ?c1 ?c2 ?c3 ?c4 ?c5 ?_)
      case c1 => exact cell_one_new _ _ _
      case c2 => intro u hu; simp at hu; subst hu; rfl
      case c3 => unfold maxLen; omega
      case c4 => omega
      case c5 => simp; omega
      intro v' w2 hown2 hgrow hnil
      have hv2 : v' ≠ .slice none 0 0 := hnil
      have hown3 : w2.ownsRow W 26 1 v' (ys ++ [x]).length ((ys ++ [x]).map (Value.int .u32)) := by simpa using hown2
      have hbt : Below W w1 w2 := ((Below.refl W w1).alloc hsz1 _).grown hgrow (by simp; omega) (fun k hk => (hown1.lt k hk).1)
      have hc2 : Cur w2 B a zs cap := hc1.belowC hbt hWB HA.out
      have ht2 : Turn B w w2 := (hturn.trans ht1).then_below (by rw [← HW.out]; exact hbt)
      have HY2 : Hid (∀ y ∈ ys ++ [x], (Lit.int .u32 y).wf = true) := by
        intro y hy
        rcases List.mem_append.1 hy with h | h
        · exact HY.out y h
        · simp at h; subst h; exact wf_u32 _ hx0 hx1
      clear hown2 hgrow hnil hown1 hbt hc1 ht1 hturn
      go_wp2
      go_roundw
      case rel => exact ⟨k + 1, ys ++ [x], by omega, by go_num, hv2, hown3, HY2, by have := HK2.out; simp [this], hc2, ht2⟩
      case measure => simp [intOf]; omega
    · have hkl : ys.length ≤ 40 := by have := HK2.out; omega
      rcases owns_own hown hv with ⟨g, cp, rfl, _, _⟩
      rw [HW.out] at hown
      go_wp2
      go_ret
      exact ⟨_, rfl, hv, ys, hown, HY, hkl, hturn⟩

end Go.Proofs.Ytbapnfocifnacad
