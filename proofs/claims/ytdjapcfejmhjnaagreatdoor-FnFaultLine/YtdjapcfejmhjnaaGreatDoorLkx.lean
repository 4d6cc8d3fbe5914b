/-
  What the program's linking returns: the words of the lines that scan kept, or a code and a line.
  The program's link: what it returns.
-/
import Derived.Test.YtdjapcfejmhjnaaGreatDoorScx
import Derived.Test.YtdjapcfejmhjnaaGreatDoorAmx
namespace Go.Proofs.YtdjapcfejmhjnaaGreatDoor
open Go.ChangeShapes Go.WideShapes Go.ChangeAt Go.RowKit Go.Deep Go.Maps
set_option linter.unusedVariables false
set_option maxRecDepth 20000

namespace Am
/-- The word of the line that stands at place k, and a code. -/
def wordOf (x : Rl.A8) (k : Nat) (ls : Labs) : Int × Int :=
  if x.kind = 2 then (x.wd, 0)
  else if x.kind = 4 then
    (if find ls x.lab < 0 then (0, 5) else if instrOk x.op x.a x.b x.c (find ls x.lab - ((k : Int) + 1)) = true then (enc x.op x.a x.b x.c (find ls x.lab - ((k : Int) + 1)), 0) else (0, 6))
  else if instrOk x.op x.a x.b x.c x.m = true then (enc x.op x.a x.b x.c x.m, 0) else (0, 6)
def linkC (ls : Labs) : List (Int × Rl.A8) → Nat → List Int → List Int × Int × Int
  | [], _, ws => (ws, 0, 0)
  | p :: l, k, ws => if (wordOf p.2 k ls).2 = 0 then linkC ls l (k + 1) (ws ++ [(wordOf p.2 k ls).1]) else ([], (wordOf p.2 k ls).2, p.1)
/-- The lines that give a word, each with its line. -/
def codeOf : List Rl.A8 → Nat → List (Int × Rl.A8)
  | [], _ => []
  | a :: l, k => if a.kind = 1 then codeOf l (k + 1) else (((k + 1 : Nat) : Int), a) :: codeOf l (k + 1)
theorem codeFrom_eq : ∀ (l : List Rl.A8) (k : Nat) (cs : List (Int × Rl.A8)), codeFrom l k cs = cs ++ codeOf l k
  | [], k, cs => by simp [codeFrom, codeOf]
  | a :: l, k, cs => by
    rw [codeFrom, codeOf, codeFrom_eq l (k + 1)]
    split <;> simp
theorem scan_kinds : ∀ (l : List Rl.A8) (k n : Nat) (ls : Labs), (scan l k n ls).1 = 0 → ∀ a ∈ l, a.kind ≠ 0
  | [], _, _, _, _ => by simp
  | a :: l, k, n, ls, h => by
    rw [scan] at h
    by_cases h0 : a.kind = 0
    · rw [if_pos h0] at h; cases h
    · rw [if_neg h0] at h
      by_cases h1 : a.kind = 1
      · rw [if_pos h1] at h
        by_cases h2 : 0 ≤ find ls a.lab
        · rw [if_pos h2] at h; cases h
        · rw [if_neg h2] at h
          intro b hb
          rcases List.mem_cons.1 hb with rfl | hb
          · exact h0
          · exact scan_kinds l _ _ _ h b hb
      · rw [if_neg h1] at h
        by_cases h2 : 256 ≤ n
        · rw [if_pos h2] at h; cases h
        · rw [if_neg h2] at h
          intro b hb
          rcases List.mem_cons.1 hb with rfl | hb
          · exact h0
          · exact scan_kinds l _ _ _ h b hb
theorem scan_few : ∀ (l : List Rl.A8) (k n : Nat) (ls : Labs), n ≤ 256 → (scan l k n ls).1 = 0 → n + (codeOf l k).length ≤ 256
  | [], _, n, _, hn, _ => by simpa [codeOf] using hn
  | a :: l, k, n, ls, hn, h => by
    rw [scan] at h
    rw [codeOf]
    by_cases h0 : a.kind = 0
    · rw [if_pos h0] at h; cases h
    · rw [if_neg h0] at h
      by_cases h1 : a.kind = 1
      · rw [if_pos h1] at h ⊢
        by_cases h2 : 0 ≤ find ls a.lab
        · rw [if_pos h2] at h; cases h
        · rw [if_neg h2] at h
          exact scan_few l _ _ _ hn h
      · rw [if_neg h1] at h ⊢
        by_cases h2 : 256 ≤ n
        · rw [if_pos h2] at h; cases h
        · rw [if_neg h2] at h
          have := scan_few l _ _ _ (by omega) h
          simp only [List.length_cons]
          omega
theorem link_code (ls : Labs) (M : Nat) : ∀ (l : List Rl.A8) (k : Nat) (ws : List Int), (∀ a ∈ l, a.kind ≠ 0 ∧ Rl.Fit M a) → link l k ws ls = linkC ls (codeOf l k) ws.length ws
  | [], k, ws, _ => by simp [link, codeOf, linkC]
  | a :: l, k, ws, h => by
    have ha := h a (by simp)
    have ih := fun ws => link_code ls M l (k + 1) ws (fun b hb => h b (by simp [hb]))
    have hk := ha.2.kind
    rw [link, codeOf]
    rcases hk with h0 | h1 | h2 | h3 | h4
    · exact absurd h0 ha.1
    · rw [if_neg (by omega), if_neg (by omega), if_neg (by omega), if_pos h1]
      exact ih ws
    · rw [if_pos h2, if_neg (by omega), linkC, ih]
      have e : wordOf a ws.length ls = (a.wd, 0) := by unfold wordOf; rw [if_pos h2]
      simp only [e]
      simp
    · have hi := ha.2.instr h3
      rw [if_neg (by omega), if_pos h3, if_neg (by omega), linkC, ih]
      have e : wordOf a ws.length ls = (enc a.op a.a a.b a.c a.m, 0) := by unfold wordOf; rw [if_neg (by omega), if_neg (by omega), if_pos hi]
      simp only [e]
      simp
    · rw [if_neg (by omega), if_neg (by omega), if_pos h4, if_neg (show ¬ a.kind = 1 by omega), linkC]
      have e2 : find ls a.lab - (ws.length : Int) - 1 = find ls a.lab - ((ws.length : Int) + 1) := by omega
      rw [e2]
      by_cases hf : find ls a.lab < 0
      · have e : wordOf a ws.length ls = (0, 5) := by unfold wordOf; rw [if_neg (by omega), if_pos h4, if_pos hf]
        simp only [e]
        rw [if_pos hf]
        simp
      · rw [if_neg hf]
        by_cases hi : instrOk a.op a.a a.b a.c (find ls a.lab - ((ws.length : Int) + 1)) = true
        · have e : wordOf a ws.length ls = (enc a.op a.a a.b a.c (find ls a.lab - ((ws.length : Int) + 1)), 0) := by unfold wordOf; rw [if_neg (by omega), if_pos h4, if_neg hf, if_pos hi]
          simp only [e]
          rw [if_pos hi, ih]
          simp
        · have e : wordOf a ws.length ls = (0, 6) := by unfold wordOf; rw [if_neg (by omega), if_pos h4, if_neg hf, if_neg hi]
          simp only [e]
          rw [if_neg hi]
          simp
end Am
theorem codeCells_at (cs : List (Int × Rl.A8)) : ∀ (i : Nat) (p : Int × Rl.A8), cs[i]? = some p → ∀ j v, (l9 p.1 p.2.kind p.2.op p.2.a p.2.b p.2.c p.2.m p.2.wd p.2.lab)[j]? = some v → (codeCells cs)[i * 9 + j]? = some v := by
  induction cs with
  | nil => intro i p h; simp at h
  | cons q cs ih =>
    intro i p h j v hv
    have e : codeCells (q :: cs) = l9 q.1 q.2.kind q.2.op q.2.a q.2.b q.2.c q.2.m q.2.wd q.2.lab ++ codeCells cs := by simp [codeCells]
    have hj : j < 9 := by
      rcases Nat.lt_or_ge j 9 with g | g
      · exact g
      · rw [List.getElem?_eq_none (by simpa using g)] at hv; cases hv
    rw [e]
    cases i with
    | zero =>
      simp only [List.getElem?_cons_zero, Option.some.injEq] at h
      subst h
      rw [Nat.zero_mul, Nat.zero_add, List.getElem?_append_left (by simpa using hj)]
      exact hv
    | succ i =>
      have := ih i p (by simpa using h) j v hv
      rw [List.getElem?_append_right (by simp; omega)]
      simp only [List.length_cons, List.length_nil]
      rw [show (i + 1) * 9 + j - (0 + 1 + 1 + 1 + 1 + 1 + 1 + 1 + 1 + 1) = i * 9 + j by omega]
      exact this
/-- The lines of code, as they lie in memory. -/
theorem own_code {w : World} {base : Nat} {v : Value} {C : List (Int × Rl.A8)} (h : w.ownsRow base 131 9 v C.length (codeCells C)) (hp : 0 < C.length) :
    ∃ g cap, v = .slice (some ⟨g, 0, none⟩) C.length cap ∧ g < w.heap.size ∧ ∀ i p, C[i]? = some p → ∀ j u, (l9 p.1 p.2.kind p.2.op p.2.a p.2.b p.2.c p.2.m p.2.wd p.2.lab)[j]? = some u → w.cell? ⟨g, i * 9 + j, none⟩ = some u := by
  rcases h.2 with ⟨h0, h1⟩ | ⟨g, cap, cur, rfl, hb, hg, h1, h2, h3, h4⟩
  · exact absurd h1 (by omega)
  · refine ⟨g, cap, rfl, ?_, fun i p hi j u hu => ?_⟩
    · rcases Nat.lt_or_ge g w.heap.size with hlt | hge
      · exact hlt
      · rw [Array.getElem?_eq_none hge] at hg; cases hg
    · have hc := codeCells_at C i p hi j u hu
      have hlt : i * 9 + j < C.length * 9 := by
        rcases Nat.lt_or_ge (i * 9 + j) (C.length * 9) with g | g
        · exact g
        · rw [← h4, List.getElem?_take, if_neg (by omega)] at hc; cases hc
      rw [← h4, List.getElem?_take, if_pos hlt] at hc
      have hd : cur[i * 9 + j]? = some u := by simpa using hc
      simp [World.cell?, hg, hd]
theorem find_le {ls : Am.Labs} (h : ∀ p ∈ ls, 0 ≤ p.2 ∧ p.2 ≤ 256) (x : ByteArray) : Am.find ls x ≤ 256 := by
  induction ls with
  | nil => simp [Am.find]
  | cons p ls ih =>
    rw [Am.find]
    split
    · exact (h p (by simp)).2
    · exact ih (fun q hq => h q (by simp [hq]))
theorem word_at (B g n cap k : Nat) (ln : Int) (x : Rl.A8) (w : World) (h0 : w.cell? ⟨B, 0, none⟩ = some (.slice (some ⟨g, 0, none⟩) n cap)) (hk : k < n) (hn : n ≤ 256) (ht : Tab w)
    (hc : ∀ j u, (l9 ln x.kind x.op x.a x.b x.c x.m x.wd x.lab)[j]? = some u → w.cell? ⟨g, k * 9 + j, none⟩ = some u)
    (mb : Nat) (ls : Am.Labs) (h1 : w.cell? ⟨B, 1, none⟩ = some (.map (some mb))) (hm : LbMap w mb ls) (hg : Am.Good ls) (hl : x.lab.size ≤ 1048576) :
    Calls Tryz.prog 73 #[.pointer (some ⟨B, 0, none⟩), .int .i64 k] w fun e w' => e = .returned (.tuple #[.int .u32 (Am.wordOf x k ls).1, .int .i64 (Am.wordOf x k ls).2]) ∧ Below w.heap.size w w' := by
  have c1 := hc 1 _ rfl
  have c2 := hc 2 _ rfl
  have c3 := hc 3 _ rfl
  have c4 := hc 4 _ rfl
  have c5 := hc 5 _ rfl
  have c6 := hc 6 _ rfl
  have c7 := hc 7 _ rfl
  have c8 := hc 8 _ rfl
  clear hc
  by_cases e2 : x.kind = 2
  · have e : Am.wordOf x k ls = (x.wd, 0) := by unfold Am.wordOf; rw [if_pos e2]
    rw [e]
    exact word_word B g n cap k ln x.kind x.op x.a x.b x.c x.m x.wd x.lab w h0 hk hn (by rw [e2]; rfl) c1 c2 c3 c4 c5 c6 c7 c8
  · have b2 : (x.kind == 2) = false := by simpa using e2
    by_cases e4 : x.kind = 4
    · have b4 : (x.kind == 4) = true := by rw [e4]; rfl
      by_cases hf : Am.find ls x.lab < 0
      · have e : Am.wordOf x k ls = (0, 5) := by unfold Am.wordOf; rw [if_neg e2, if_pos e4, if_pos hf]
        rw [e]
        exact word_branch_none B g n cap k ln x.kind x.op x.a x.b x.c x.m x.wd x.lab w h0 hk hn b4 b2 c1 c2 c3 c4 c5 c6 c7 c8 mb ls _ h1 hm hg hl rfl hf
      · have hf2 := find_le hg.range x.lab
        by_cases hi : instrOk x.op x.a x.b x.c (Am.find ls x.lab - ((k : Int) + 1)) = true
        · have e : Am.wordOf x k ls = (Am.enc x.op x.a x.b x.c (Am.find ls x.lab - ((k : Int) + 1)), 0) := by unfold Am.wordOf; rw [if_neg e2, if_pos e4, if_neg hf, if_pos hi]
          rw [e]
          refine word_branch_yes _ B g n cap k ln x.kind x.op x.a x.b x.c x.m x.wd x.lab w h0 hk hn b4 b2 ht c1 c2 c3 c4 c5 c6 c7 c8 mb ls _ h1 hm hg hl rfl (by omega) hf2 (fun X hX => ?_)
          unfold Am.enc
          rw [if_pos hi]
          exact impl_enc _ _ _ _ _ X hX hi
        · have e : Am.wordOf x k ls = (0, 6) := by unfold Am.wordOf; rw [if_neg e2, if_pos e4, if_neg hf, if_neg hi]
          rw [e]
          exact word_branch_no B g n cap k ln x.kind x.op x.a x.b x.c x.m x.wd x.lab w h0 hk hn b4 b2 ht c1 c2 c3 c4 c5 c6 c7 c8 mb ls _ h1 hm hg hl rfl (by omega) hf2 (fun X hX => impl_enc_no _ _ _ _ _ X hX (by simpa using hi))
    · have b4 : (x.kind == 4) = false := by simpa using e4
      by_cases hi : instrOk x.op x.a x.b x.c x.m = true
      · have e : Am.wordOf x k ls = (Am.enc x.op x.a x.b x.c x.m, 0) := by unfold Am.wordOf; rw [if_neg e2, if_neg e4, if_pos hi]
        rw [e]
        refine word_instr_yes _ B g n cap k ln x.kind x.op x.a x.b x.c x.m x.wd x.lab w h0 hk hn b2 b4 ht c1 c2 c3 c4 c5 c6 c7 c8 (fun X hX => ?_)
        unfold Am.enc
        rw [if_pos hi]
        exact impl_enc _ _ _ _ _ X hX hi
      · have e : Am.wordOf x k ls = (0, 6) := by unfold Am.wordOf; rw [if_neg e2, if_neg e4, if_neg hi]
        rw [e]
        exact word_instr_no B g n cap k ln x.kind x.op x.a x.b x.c x.m x.wd x.lab w h0 hk hn b2 b4 ht c1 c2 c3 c4 c5 c6 c7 c8 (fun X hX => impl_enc_no _ _ _ _ _ X hX (by simpa using hi))
end Go.Proofs.YtdjapcfejmhjnaaGreatDoor
namespace Go.Proofs.YtdjapcfejmhjnaaGreatDoor
open Go.ChangeShapes Go.WideShapes Go.ChangeAt Go.RowKit Go.Deep Go.Maps
set_option linter.unusedVariables false
set_option maxRecDepth 20000

/-- What link returns. -/
def LinkPost (w : World) (T : List Int × Int × Int) (e : Ending) (w' : World) : Prop :=
  ∃ v err, e = .returned (.tuple #[v, err]) ∧ (T.2.1 ≠ 0 → err = .iface 62 (.agg #[.int .i64 T.2.2, .int .i64 T.2.1])) ∧ (T.2.1 = 0 → err = .nilIface ∧ OwnW w' w.heap.size v T.1) ∧ Below w.heap.size w w'
theorem grown_below {w wr wx w' : World} {v : Value} {base : Nat} (hb : Below base w wr) (hbx : Below wr.heap.size wr wx) (hs : base ≤ wr.heap.size) (hg : wx.grownBy w' v.ownBlock) (hv : ∀ k, v.ownBlock = some k → base ≤ k) : Below base w w' :=
  (hb.trans (hbx.mono hs)).grown hg (Nat.le_trans hs hbx.size) hv
set_option maxHeartbeats 2000000 in
theorem impl_link (B mb base : Nat) (v : Value) (C : List (Int × Rl.A8)) (ls : Am.Labs) (T : List Int × Int × Int) (w : World) (h0 : w.cell? ⟨B, 0, none⟩ = some v) (h1 : w.cell? ⟨B, 1, none⟩ = some (.map (some mb)))
    (ho : w.ownsRow base 131 9 v C.length (codeCells C)) (hm : LbMap w mb ls) (hg : Am.Good ls) (ht : Tab w) (hn : C.length ≤ 256) (hl : ∀ p ∈ C, p.2.lab.size ≤ 1048576) (HTT : Hid (Am.linkC ls C 0 [] = T)) :
    Calls Tryz.prog 47 #[.pointer (some ⟨B, 0, none⟩)] w (LinkPost w T) := by
  obtain ⟨i8, hi8, hz8, hs8, hb8⟩ := infoW'
  have HJ : Hid _ := And.intro hi8 (And.intro hz8 (And.intro hs8 hb8))
  clear hi8 hz8 hs8 hb8
  obtain ⟨a, cap, rfl⟩ := own_slice ho
  obtain ⟨n, HN⟩ : ∃ n, Hid (n = C.length) := ⟨_, rfl⟩
  have hn' : n ≤ 256 := by rw [HN.out]; exact hn
  have HA : Hid _ := And.intro h0 (And.intro h1 (And.intro ho (And.intro hm (And.intro hg (And.intro ht hl)))))
  rw [← HN.out] at h0
  have hlt0 : B < w.heap.size := World.block_lt_of_cell? w _ h0
  have hc0 : (w.alloc (.cells #[] 42)).cell? ⟨B, 0, none⟩ = some (.slice a n cap) := cell_alloc h0
  have HO0 : Hid (OwnW (w.alloc (.cells #[] 42)) w.heap.size (.slice (some ⟨w.heap.size, 0, none⟩) 0 0) []) := own_nil w w.heap.size 42 1 (Nat.le_refl _)
  have HB0 : Hid (Below w.heap.size w (w.alloc (.cells #[] 42))) := (Below.refl _ _).alloc (Nat.le_refl _) _
  clear ho hm hg ht hn hl h1 h0
  go_enter Tryz.func47, Tryz.ntmps47
  go_wp2
  go_loopw [4, 15] (fun vw i wr => ∃ (k : Nat) (ws : List Int), k ≤ n ∧ i = .int .i64 k ∧ w.heap.size < wr.heap.size ∧ Hid (ws.length = k ∧ Below w.heap.size w wr ∧ OwnW wr w.heap.size vw ws ∧ Am.linkC ls (C.drop k) k ws = T)) (fun _ i _ => n - (intOf i).toNat)
  case atStart => exact ⟨0, [], by omega, rfl, by simp, rfl, HB0.out, HO0.out, HTT.out⟩
  case round =>
    obtain ⟨k, ws, hk, rfl, hwr, HR⟩ := hrel
    by_cases hlt : k < n
    · have hlt' : (k : Int) < (n : Int) := by omega
      have hkl : k < C.length := by rw [← HN.out]; exact hlt
      obtain ⟨g, cap2, hv, hgl, hcells⟩ := own_code HA.out.2.2.1 (by omega)
      rw [← HN.out] at hv
      cases hv
      have hbel := HR.out.2.1
      have hline := hcells k C[k] (List.getElem?_eq_getElem hkl)
      have HD : Hid (Am.linkC ls (C[k] :: C.drop (k + 1)) k ws = T) := by
        have h := HR.out.2.2.2
        rw [List.drop_eq_getElem_cons hkl] at h
        exact h
      have hxs := HA.out.2.2.2.2.2.2 C[k] (List.getElem_mem hkl)
      clear hcells
      generalize C[k] = p at hline HD hxs
      obtain ⟨ln, ⟨kd, op, xa, xb, xc, xm, wd, lab⟩⟩ := p
      simp only at hline hxs
      have hcw : ∀ j u, (l9 ln kd op xa xb xc xm wd lab)[j]? = some u → wr.cell? ⟨g, k * 9 + j, none⟩ = some u := fun j u hu => (hbel.cell (p := ⟨g, k * 9 + j, none⟩) hgl).trans (hline j u hu)
      have c0 : wr.cell? ⟨g, k * 9, none⟩ = some (.int .i64 ln) := hcw 0 _ rfl
      have c1 : wr.cell? ⟨g, k * 9 + 1, none⟩ = some (.int .i64 kd) := hcw 1 _ rfl
      have c2 : wr.cell? ⟨g, k * 9 + 2, none⟩ = some (.int .i64 op) := hcw 2 _ rfl
      have c3 : wr.cell? ⟨g, k * 9 + 3, none⟩ = some (.int .i64 xa) := hcw 3 _ rfl
      have c4 : wr.cell? ⟨g, k * 9 + 4, none⟩ = some (.int .i64 xb) := hcw 4 _ rfl
      have c5 : wr.cell? ⟨g, k * 9 + 5, none⟩ = some (.int .i64 xc) := hcw 5 _ rfl
      have c6 : wr.cell? ⟨g, k * 9 + 6, none⟩ = some (.int .i64 xm) := hcw 6 _ rfl
      have c7 : wr.cell? ⟨g, k * 9 + 7, none⟩ = some (.int .u32 wd) := hcw 7 _ rfl
      have c8 : wr.cell? ⟨g, k * 9 + 8, none⟩ = some (.string lab) := hcw 8 _ rfl
      have HBX : Hid (Below wr.heap.size wr (wr.alloc (b9 ln kd op xa xb xc xm wd lab))) := (Below.refl _ _).alloc (Nat.le_refl _) _
      have hbw : Below w.heap.size w (wr.alloc (b9 ln kd op xa xb xc xm wd lab)) := hbel.trans (HBX.out.mono hbel.size)
      have h0w := (hbw.cell (p := ⟨B, 0, none⟩) hlt0).trans HA.out.1
      rw [← HN.out] at h0w
      have HW : Hid _ := word_at B g n cap k ln ⟨kd, op, xa, xb, xc, xm, wd, lab⟩ _ h0w hlt hn' (Tab.below HA.out.2.2.2.2.2.1 hbw)
        (fun j u hu => cell_alloc (hcw j u hu)) mb ls ((hbw.cell (p := ⟨B, 1, none⟩) hlt0).trans HA.out.2.1) (HA.out.2.2.2.1.below hbw) HA.out.2.2.2.2.1 hxs
      obtain ⟨r, HRR⟩ : ∃ r, Hid (Am.wordOf ⟨kd, op, xa, xb, xc, xm, wd, lab⟩ k ls = r) := ⟨_, rfl⟩
      have HDD : Hid ((if r.2 = 0 then Am.linkC ls (C.drop (k + 1)) (k + 1) (ws ++ [r.1]) else ([], r.2, ln)) = T) := by
        have h := HD.out
        rw [Am.linkC] at h
        simp only [HRR.out] at h
        exact h
      rw [HRR.out] at HW
      have HB1 : Hid _ := hbw
      clear hcw hline hbw h0w HD HRR hbel
      obtain ⟨z, cd⟩ := r
      simp only at HW HDD
      obtain ⟨aw, cw, hv, -⟩ := OwnW.seg HR.out.2.2.1
      have hwl : ws.length = k := HR.out.1
      rw [hwl] at hv
      subst hv
      go_wp2_with fail
      refine Calls.mono HW.out ?_
      rintro e w2 ⟨rfl, hb2⟩
      have HB2 : Hid _ := HBX.out.trans (hb2.mono HBX.out.size)
      have e0 : w2.cell? ⟨wr.heap.size, 0, none⟩ = some (.int .i64 ln) := (hb2.cell (p := ⟨wr.heap.size, 0, none⟩) (by simp)).trans (by simp)
      clear hb2
      by_cases hcd : cd = 0
      · have HQ : Hid (Am.linkC ls (C.drop (k + 1)) (k + 1) (ws ++ [z]) = T) := by
          have h := HDD.out
          rw [if_pos hcd] at h
          exact h
        have hcd' : (cd == 0) = true := by rw [hcd]; rfl
        have hcd'' : (cd != 0) = false := by rw [hcd]; rfl
        clear HDD
        subst hcd
        have HB3 : Hid (Below wr.heap.size wr (w2.alloc (.cells #[.int .u32 z] 42))) := HB2.out.alloc HB2.out.size _
        have hown := owns_below HR.out.2.2.1 HB3.out
        rw [hwl] at hown
        have hsz : w.heap.size < w2.heap.size := Nat.lt_of_lt_of_le hwr HB2.out.size
        go_wp2_with (at_builtin; (refine wpList_append_lies _ rfl (.tmp 33) (.tmp 35) 24 rfl w.heap.size 42 i8 (.int .u32 0) 1 4 Tryz.underlying24 HJ.out.1 HJ.out.2.1 HJ.out.2.2.1 HJ.out.2.2.2 rfl (by omega) _ _ _ rfl hown _ 1 1 [.int .u32 z] rfl rfl (newsWH _ _ _ (by simp)) (oneW _) (by omega) (by unfold maxLen; omega) (by omega) (by simp; omega) _ rfl ?_; intro g1 cap1 w4 hown1 hgrow hat hlt1))
        go_wp2
        go_roundw
        case rel =>
          refine ⟨k + 1, ws ++ [z], by omega, by go_num, ?_, by simp [hwl], grown_below HR.out.2.1 HB3.out HR.out.2.1.size hgrow (fun j hj => OwnW.block HR.out.2.2.1 j hj), ?_, HQ.out⟩
          · have := hgrow.size
            simp at this
            omega
          · have hk2 := hwl
            subst hk2
            exact OwnW.snoc hown1
        case measure => simp [intOf]; omega
      · have HQ : Hid (([], cd, ln) = T) := by
          have h := HDD.out
          rw [if_neg hcd] at h
          exact h
        have hcd' : (cd == 0) = false := by simpa using hcd
        have hcd'' : (cd != 0) = true := by simpa using hcd
        have HNZ : Hid _ := hcd
        clear HDD hcd
        have HB3 : Hid (Below w.heap.size w w2) := HR.out.2.1.trans (HB2.out.mono HR.out.2.1.size)
        go_wp2
        go_quiet (fail)
        go_wp2
        go_ret2
        exact ⟨_, _, rfl, by rw [← HQ.out]; intro _; rfl, by rw [← HQ.out]; intro h; exact absurd h HNZ.out, below_drewN HB3.out _⟩
    · obtain rfl : k = n := by omega
      have HQ : Hid ((ws, (0 : Int), (0 : Int)) = T) := by
        have h := HR.out.2.2.2
        rw [List.drop_of_length_le (by rw [← HN.out]; exact Nat.le_refl _)] at h
        exact h
      go_wp2
      go_ret2
      exact ⟨_, _, rfl, by rw [← HQ.out]; intro h; exact absurd rfl h, by rw [← HQ.out]; intro _; exact ⟨rfl, HR.out.2.2.1⟩, HR.out.2.1⟩
end Go.Proofs.YtdjapcfejmhjnaaGreatDoor
