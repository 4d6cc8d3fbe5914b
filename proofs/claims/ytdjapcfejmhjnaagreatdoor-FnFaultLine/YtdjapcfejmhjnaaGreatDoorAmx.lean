/-
  What a text assembles to: the lines of it read one behind the other; and what the specification's l03Find returns. Plain facts but for that.
  Lists of labels and of words that a call owns: plain facts on worlds. No conditions but those that each fact names.
  What the assembler's two readings keep in memory: the lines, the words, the labels, each in blocks of their own. Plain facts on worlds.
  What the specification's l03All returns. Condition: the text is at most 1048576 bytes long.
-/
import Derived.Test.YtdjapcfejmhjnaaGreatDoorLns
import Derived.Test.YtdjapcfejmhjnaaGreatDoorSrx
namespace Go.Proofs.YtdjapcfejmhjnaaGreatDoor
open Go.ChangeShapes Go.WideShapes Go.ChangeAt Go.RowKit Go.Deep
set_option linter.unusedVariables false
set_option maxRecDepth 20000

namespace Am
/-- Labels, in the order of lines, each with how many words stand ahead of it. -/
abbrev Labs := List (ByteArray × Int)
def find : Labs → ByteArray → Int
  | [], _ => -1
  | p :: ls, x => if p.1 = x then p.2 else find ls x
/-- The first reading: a code, a line, the labels. -/
def scan : List Rl.A8 → Nat → Nat → Labs → Int × Int × Labs
  | [], _, _, ls => (0, 0, ls)
  | a :: l, k, n, ls =>
    if a.kind = 0 then (2, k + 1, ls)
    else if a.kind = 1 then (if 0 ≤ find ls a.lab then (3, k + 1, ls) else scan l (k + 1) n (ls ++ [(a.lab, (n : Int))]))
    else if 256 ≤ n then (4, k + 1, ls) else scan l (k + 1) (n + 1) ls
/-- The word of an instruction, 0 when it is not right. -/
def enc (op a b c m : Int) : Int := if instrOk op a b c m = true then code op a b c m else 0
/-- The second reading: words, a code, a line. -/
def link : List Rl.A8 → Nat → List Int → Labs → List Int × Int × Int
  | [], _, ws, _ => (ws, 0, 0)
  | a :: l, k, ws, ls =>
    if a.kind = 2 then link l (k + 1) (ws ++ [a.wd]) ls
    else if a.kind = 3 then link l (k + 1) (ws ++ [enc a.op a.a a.b a.c a.m]) ls
    else if a.kind = 4 then
      (if find ls a.lab < 0 then ([], 5, k + 1)
       else if instrOk a.op a.a a.b a.c (find ls a.lab - ws.length - 1) = true then link l (k + 1) (ws ++ [enc a.op a.a a.b a.c (find ls a.lab - ws.length - 1)]) ls
       else ([], 6, k + 1))
    else link l (k + 1) ws ls
/-- What a text assembles to: words, labels, a code, a line. -/
def all (s : ByteArray) : List Int × Labs × Int × Int :=
  if Ln.ok s = true then
    (let r := scan ((Ln.pieces s).map Rl.line) 0 0 []
     if r.1 ≠ 0 then ([], r.2.2, r.1, r.2.1)
     else
       (let t := link ((Ln.pieces s).map Rl.line) 0 [] r.2.2
        (t.1, r.2.2, t.2.1, t.2.2)))
  else ([], [], 1, 0)
theorem find_none (ls : Labs) (x : ByteArray) (h : ∀ p ∈ ls, p.1 ≠ x) : find ls x = -1 := by
  induction ls with
  | nil => rfl
  | cons p ls ih =>
    rw [find, if_neg (h p (by simp))]
    exact ih (fun q hq => h q (by simp [hq]))
end Am
/-- A list of labels as it lies in memory: two cells each. -/
def labCells (ls : Am.Labs) : List Value := ls.flatMap fun p => [.string p.1, .int .i64 p.2]
def LbAt (w : World) (a : Option Addr) (ls : Am.Labs) : Prop :=
  0 < ls.length → ∃ b off, a = some ⟨b, off, none⟩ ∧ b < w.heap.size ∧ ∀ i p, ls[i]? = some p → w.cell? ⟨b, off + i * 2, none⟩ = some (.string p.1) ∧ w.cell? ⟨b, off + i * 2 + 1, none⟩ = some (.int .i64 p.2)
theorem LbAt.below {w w' : World} {a : Option Addr} {ls : Am.Labs} (h : LbAt w a ls) (hb : Below w.heap.size w w') : LbAt w' a ls := by
  intro h0
  obtain ⟨b, off, e, hlt, hc⟩ := h h0
  exact ⟨b, off, e, Nat.lt_of_lt_of_le hlt hb.size, fun i p hi => ⟨(hb.cell (p := ⟨b, off + i * 2, none⟩) hlt).trans (hc i p hi).1, (hb.cell (p := ⟨b, off + i * 2 + 1, none⟩) hlt).trans (hc i p hi).2⟩⟩
set_option maxHeartbeats 1000000 in
theorem spec_find (a : Option Addr) (n cap : Nat) (ls : Am.Labs) (x : ByteArray) (r : Int) (w : World) (Hn : Hid (n = ls.length)) (hl : LbAt w a ls) (hn : n ≤ 1048576) (HR : Hid (Am.find ls x = r)) :
    Calls Tryz.prog 59 #[.slice a n cap, .string x] w fun e w' => e = .returned (.int .i64 r) ∧ w' = w := by
  have HL : Hid _ := hl
  clear hl
  go_enter Tryz.func59, Tryz.ntmps59
  go_wp2
  go_loop [5] (fun i => ∃ k : Nat, k ≤ n ∧ i = .int .i64 k ∧ Hid (Am.find (ls.drop k) x = r)) (fun i => n - (intOf i).toNat)
  case atStart => exact ⟨0, by omega, rfl, HR⟩
  case round =>
    obtain ⟨k, hk, rfl, HK⟩ := hrel
    by_cases hlt : k < n
    · have hlt' : (k : Int) < (n : Int) := by omega
      have hkl : k < ls.length := by rw [← Hn.out]; exact hlt
      obtain ⟨b, off, rfl, hbl, hc⟩ := HL.out (by omega)
      obtain ⟨hc0, hc1⟩ := hc k ls[k] (List.getElem?_eq_getElem hkl)
      have HD : Hid (Am.find (ls[k] :: ls.drop (k + 1)) x = r) := by rw [← List.drop_eq_getElem_cons hkl]; exact HK
      clear hc
      generalize ls[k] = p at hc0 hc1 HD
      obtain ⟨p1, p2⟩ := p
      simp only at hc0 hc1
      by_cases he : p1 = x
      · have hne : (p1.toList == x.toList) = true := by rw [he]; simp
        have HE : Hid (p2 = r) := by
          have h := HD.out
          rw [Am.find, if_pos he] at h
          exact h
        clear he
        go_wp2
        go_ret
        exact ⟨ret_int HE.out, rfl⟩
      · have hne : (p1.toList == x.toList) = false := Tx.list_ne p1 x he
        have HE : Hid (Am.find (ls.drop (k + 1)) x = r) := by
          have h := HD.out
          rw [Am.find, if_neg he] at h
          exact h
        clear he
        go_wp2
        go_round
        case rel => exact ⟨k + 1, by omega, by go_num, HE⟩
        case measure => simp [intOf]; omega
    · have hlt' : ¬ (k : Int) < (n : Int) := by omega
      have HE : Hid (-1 = r) := by
        have h := HK.out
        rw [List.drop_of_length_le (by rw [← Hn.out]; omega)] at h
        exact h
      go_wp2
      go_ret
      exact ⟨ret_int HE.out, rfl⟩
theorem owns_below {w w' : World} {base : Nat} {e : TypeId} {size : Nat} {v : Value} {n : Nat} {xs : List Value} (h : w.ownsRow base e size v n xs) (hb : Below w.heap.size w w') : w'.ownsRow base e size v n xs := by
  refine ⟨h.1, ?_⟩
  rcases h.2 with h0 | ⟨g, cap, cur, hv, hg, hh, r⟩
  · exact .inl h0
  · refine .inr ⟨g, cap, cur, hv, hg, ?_, r⟩
    have hlt : g < w.heap.size := by
      rcases Nat.lt_or_ge g w.heap.size with h' | h'
      · exact h'
      · rw [Array.getElem?_eq_none h'] at hh; cases hh
    rw [hb.block g hlt]
    exact hh
end Go.Proofs.YtdjapcfejmhjnaaGreatDoor
namespace Go.Proofs.YtdjapcfejmhjnaaGreatDoor
open Go.ChangeShapes Go.WideShapes Go.ChangeAt Go.RowKit Go.Deep
set_option linter.unusedVariables false
set_option maxRecDepth 20000

theorem infoLb : (Tryz.prog.info? 71).map (fun i => (i.zero, i.size, i.bytes)) = some (some (.agg #[.string ⟨#[]⟩, .int .i64 0]), 2, 24) := by kernel_rfl
theorem infoLb' : ∃ i, Tryz.prog.info? 71 = some i ∧ i.zero = some (.agg #[.string ⟨#[]⟩, .int .i64 0]) ∧ i.size = 2 ∧ i.bytes = 24 := by
  obtain ⟨i, hi, h⟩ := Option.map_eq_some_iff.1 infoLb
  simp only [Prod.mk.injEq] at h
  exact ⟨i, hi, h.1, h.2.1, h.2.2⟩
theorem infoW : (Tryz.prog.info? 42).map (fun i => (i.zero, i.size, i.bytes)) = some (some (.int .u32 0), 1, 4) := by kernel_rfl
theorem infoW' : ∃ i, Tryz.prog.info? 42 = some i ∧ i.zero = some (.int .u32 0) ∧ i.size = 1 ∧ i.bytes = 4 := by
  obtain ⟨i, hi, h⟩ := Option.map_eq_some_iff.1 infoW
  simp only [Prod.mk.injEq] at h
  exact ⟨i, hi, h.1, h.2.1, h.2.2⟩
/-- A list of labels that the call owns, from block 'base' on. -/
def OwnLb (w : World) (base : Nat) (v : Value) (ls : Am.Labs) : Prop := w.ownsRow base 71 2 v ls.length (labCells ls)
/-- A list of words that the call owns, from block 'base' on. -/
def OwnW (w : World) (base : Nat) (v : Value) (zs : List Int) : Prop := w.ownsRow base 42 1 v zs.length (zs.map (Value.int .u32))
theorem own_nil (w : World) (base : Nat) (e : TypeId) (size : Nat) (hb : base ≤ w.heap.size) : (w.alloc (.cells #[] e)).ownsRow base e size (.slice (some ⟨w.heap.size, 0, none⟩) 0 0) 0 [] :=
  ⟨by simp, .inr ⟨w.heap.size, 0, #[], rfl, hb, by show (w.heap.push _)[w.heap.size]? = _; simp, Nat.le_refl _, by simp, by simp, by simp⟩⟩
theorem labCells_at (ls : Am.Labs) : ∀ (i : Nat) (p : ByteArray × Int), ls[i]? = some p → (labCells ls)[i * 2]? = some (.string p.1) ∧ (labCells ls)[i * 2 + 1]? = some (.int .i64 p.2) := by
  induction ls with
  | nil => intro i p h; simp at h
  | cons q ls ih =>
    intro i p h
    have e : labCells (q :: ls) = .string q.1 :: .int .i64 q.2 :: labCells ls := by simp [labCells]
    rw [e]
    cases i with
    | zero =>
      simp only [List.getElem?_cons_zero, Option.some.injEq] at h
      subst h
      exact ⟨rfl, rfl⟩
    | succ i =>
      have := ih i p (by simpa using h)
      rw [show (i + 1) * 2 = i * 2 + 1 + 1 by omega]
      simpa using this
theorem labCells_len (ls : Am.Labs) : (labCells ls).length = ls.length * 2 := by
  induction ls with
  | nil => rfl
  | cons q ls ih =>
    have e : labCells (q :: ls) = .string q.1 :: .int .i64 q.2 :: labCells ls := by simp [labCells]
    rw [e]
    simp only [List.length_cons, ih]
    omega
theorem OwnLb.at {w : World} {base : Nat} {v : Value} {ls : Am.Labs} (h : OwnLb w base v ls) : ∃ a cap, v = .slice a ls.length cap ∧ LbAt w a ls := by
  rcases h.2 with ⟨h0, h1⟩ | ⟨g, cap, cur, rfl, hb, hg, h1, h2, h3, h4⟩
  · exact ⟨none, 0, by rw [h0, h1], fun h => absurd h (by omega)⟩
  · refine ⟨_, _, rfl, fun h0 => ⟨g, 0, rfl, ?_, fun i p hi => ?_⟩⟩
    · rcases Nat.lt_or_ge g w.heap.size with hlt | hge
      · exact hlt
      · rw [Array.getElem?_eq_none hge] at hg; cases hg
    · have hil : i < ls.length := by
        rcases Nat.lt_or_ge i ls.length with h | h
        · exact h
        · rw [List.getElem?_eq_none h] at hi; cases hi
      obtain ⟨c0, c1⟩ := labCells_at ls i p hi
      rw [← h4] at c0 c1
      rw [List.getElem?_take, if_pos (by omega)] at c0 c1
      have d0 : cur[i * 2]? = some (.string p.1) := by simpa using c0
      have d1 : cur[i * 2 + 1]? = some (.int .i64 p.2) := by simpa using c1
      rw [Nat.zero_add]
      exact ⟨by simp [World.cell?, hg, d0], by simp [World.cell?, hg, d1]⟩
theorem OwnLb.block {w : World} {base : Nat} {v : Value} {ls : Am.Labs} (h : OwnLb w base v ls) : ∀ k, v.ownBlock = some k → base ≤ k := by
  rcases h.2 with ⟨h0, h1⟩ | ⟨g, cap, cur, rfl, hb, hg, h1, h2, h3, h4⟩
  · subst h0; intro k hk; cases hk
  · intro k hk; cases hk; exact hb
theorem OwnLb.snoc {w : World} {base g cap : Nat} {ls : Am.Labs} {x : ByteArray} {n : Int} (h : w.ownsRow base 71 2 (.slice (some ⟨g, 0, none⟩) (ls.length + 1) cap) (ls.length + 1) (labCells ls ++ [.string x, .int .i64 n])) :
    OwnLb w base (.slice (some ⟨g, 0, none⟩) (ls.length + 1) cap) (ls ++ [(x, n)]) := by
  unfold OwnLb
  have e : labCells (ls ++ [(x, n)]) = labCells ls ++ [.string x, .int .i64 n] := by simp [labCells]
  rw [e, List.length_append]
  exact h
theorem OwnW.seg {w : World} {base : Nat} {v : Value} {zs : List Int} (h : OwnW w base v zs) : ∃ a cap, v = .slice a zs.length cap ∧ Seg .u32 w a zs := by
  rcases h.2 with ⟨h0, h1⟩ | ⟨g, cap, cur, rfl, hb, hg, h1, h2, h3, h4⟩
  · exact ⟨none, 0, by rw [h0, h1], fun h => absurd h (by omega)⟩
  · refine ⟨_, _, rfl, fun h0 => ⟨g, 0, rfl, ?_, fun i hi => ?_⟩⟩
    · rcases Nat.lt_or_ge g w.heap.size with hlt | hge
      · exact hlt
      · rw [Array.getElem?_eq_none hge] at hg; cases hg
    · rw [Nat.zero_add]
      have e : cur[i]? = some (.int .u32 (zs.getD i 0)) := by
        have := congrArg (·[i]?) h4
        simp only [Nat.mul_one] at this
        rw [List.getElem?_take, if_pos hi] at this
        simpa [hi, List.getD] using this
      simp [World.cell?, hg, e]
theorem OwnW.block {w : World} {base : Nat} {v : Value} {zs : List Int} (h : OwnW w base v zs) : ∀ k, v.ownBlock = some k → base ≤ k := by
  rcases h.2 with ⟨h0, h1⟩ | ⟨g, cap, cur, rfl, hb, hg, h1, h2, h3, h4⟩
  · subst h0; intro k hk; cases hk
  · intro k hk; cases hk; exact hb
theorem OwnW.snoc {w : World} {base g cap : Nat} {zs : List Int} {r : Int} (h : w.ownsRow base 42 1 (.slice (some ⟨g, 0, none⟩) (zs.length + 1) cap) (zs.length + 1) (zs.map (Value.int .u32) ++ [.int .u32 r])) :
    OwnW w base (.slice (some ⟨g, 0, none⟩) (zs.length + 1) cap) (zs ++ [r]) := by
  unfold OwnW
  simpa using h
theorem newsLb (w : World) (x y : Value) : ∀ j u, [x, y][j]? = some u → (w.alloc (.cells #[x, y] 71)).cell? ((⟨w.heap.size, 0, none⟩ : Addr).add j) = some u :=
  World.news_of_block (cs := #[x, y]) (t := 71) (fr := (0, 0)) (by show (w.heap.push _)[w.heap.size]? = _; simp)
theorem newsW (w : World) (x : Value) : ∀ j u, [x][j]? = some u → (w.alloc (.cells #[x] 42)).cell? ((⟨w.heap.size, 0, none⟩ : Addr).add j) = some u :=
  World.news_of_block (cs := #[x]) (t := 42) (fr := (0, 0)) (by show (w.heap.push _)[w.heap.size]? = _; simp)
theorem oneLb (x : ByteArray) (n : Int) : ∀ u ∈ [Value.string x, .int .i64 n], u.oneCell' = true := by
  intro u hu
  simp only [List.mem_cons, List.mem_nil_iff, or_false] at hu
  rcases hu with rfl | rfl <;> rfl
theorem oneW (n : Int) : ∀ u ∈ [Value.int .u32 n], u.oneCell' = true := by
  intro u hu
  simp only [List.mem_singleton] at hu
  subst hu
  rfl
end Go.Proofs.YtdjapcfejmhjnaaGreatDoor
namespace Go.Proofs.YtdjapcfejmhjnaaGreatDoor
open Go.ChangeShapes Go.WideShapes Go.ChangeAt Go.RowKit Go.Deep
set_option linter.unusedVariables false
set_option maxRecDepth 20000

/-- Texts that lie in block 'b'. -/
def FldB (w : World) (b : Nat) (a : Option Addr) (ws : List ByteArray) : Prop :=
  0 < ws.length → b < w.heap.size ∧ ∃ off, a = some ⟨b, off, none⟩ ∧ ∀ i x, ws[i]? = some x → w.cell? ⟨b, off + i, none⟩ = some (.string x)
theorem FldB.kept {w w' : World} {b : Nat} {a : Option Addr} {ws : List ByteArray} (h : FldB w b a ws) (hs : w.heap.size ≤ w'.heap.size) (hk : b < w.heap.size → w'.heap[b]? = w.heap[b]?) : FldB w' b a ws := by
  intro h0
  obtain ⟨hb, off, e, hc⟩ := h h0
  exact ⟨Nat.lt_of_lt_of_le hb hs, off, e, fun i x hi => (World.cell?_of_block (w := w) (w' := w') (a := ⟨b, off + i, none⟩) (hk hb)).trans (hc i x hi)⟩
/-- What the two readings keep. -/
structure St (w wr : World) (b : Nat) (a : Option Addr) (lines : List ByteArray) (vw : Value) (ws : List Int) (vl : Value) (ls : Am.Labs) : Prop where
  words : OwnW wr w.heap.size vw ws
  labs : OwnLb wr (w.heap.size + 1) vl ls
  lines : FldB wr b a lines
  apart : vw.ownBlock ≠ vl.ownBlock
  wb : vw.ownBlock ≠ some b
  lb : vl.ownBlock ≠ some b
  below : Below w.heap.size w wr
  room : w.heap.size + 2 ≤ wr.heap.size
theorem St.hop {w wr w' : World} {b : Nat} {a : Option Addr} {lines : List ByteArray} {vw : Value} {ws : List Int} {vl : Value} {ls : Am.Labs} (h : St w wr b a lines vw ws vl ls) (hb : Below wr.heap.size wr w') : St w w' b a lines vw ws vl ls :=
  ⟨owns_below h.words hb, owns_below h.labs hb, h.lines.kept hb.size (fun hlt => hb.block b hlt), h.apart, h.wb, h.lb, h.below.trans (hb.mono h.below.size), Nat.le_trans h.room hb.size⟩
theorem St.lab {w wr w' : World} {b g cap H : Nat} {a : Option Addr} {lines : List ByteArray} {vw : Value} {ws : List Int} {vl : Value} {ls : Am.Labs} {x : ByteArray} {n : Int} (h : St w wr b a lines vw ws vl ls) (hl : 0 < lines.length)
    (hn : w'.ownsRow (w.heap.size + 1) 71 2 (.slice (some ⟨g, 0, none⟩) (ls.length + 1) cap) (ls.length + 1) (labCells ls ++ [.string x, .int .i64 n])) (hg : wr.grownBy w' vl.ownBlock) (hat : vl.ownBlock = some g ∨ g = H) (hH : wr.heap.size = H) :
    St w w' b a lines vw ws (.slice (some ⟨g, 0, none⟩) (ls.length + 1) cap) (ls ++ [(x, n)]) := by
  have hbl := (h.lines hl).1
  refine ⟨World.ownsRow.kept h.words hg (.inr h.apart), OwnLb.snoc hn, h.lines.kept hg.size (fun hlt => hg.block b hlt (fun e => h.lb e.symm)), ?_, h.wb, ?_, h.below.grown hg h.below.size (fun k hk => by have := h.labs.block k hk; omega), Nat.le_trans h.room hg.size⟩
  · show vw.ownBlock ≠ some g
    rcases hat with e | e
    · rw [← e]; exact h.apart
    · intro e2
      have := (World.ownsRow.lt h.words g e2).2
      omega
  · show some g ≠ some b
    rcases hat with e | e
    · rw [← e]; exact h.lb
    · intro e2
      cases e2
      omega
theorem St.word {w wr w' : World} {b g cap H : Nat} {a : Option Addr} {lines : List ByteArray} {vw : Value} {ws : List Int} {vl : Value} {ls : Am.Labs} {z : Int} (h : St w wr b a lines vw ws vl ls) (hl : 0 < lines.length)
    (hn : w'.ownsRow w.heap.size 42 1 (.slice (some ⟨g, 0, none⟩) (ws.length + 1) cap) (ws.length + 1) (ws.map (Value.int .u32) ++ [.int .u32 z])) (hg : wr.grownBy w' vw.ownBlock) (hat : vw.ownBlock = some g ∨ g = H) (hH : wr.heap.size = H) :
    St w w' b a lines (.slice (some ⟨g, 0, none⟩) (ws.length + 1) cap) (ws ++ [z]) vl ls := by
  have hbl := (h.lines hl).1
  refine ⟨OwnW.snoc hn, World.ownsRow.kept h.labs hg (.inr h.apart.symm), h.lines.kept hg.size (fun hlt => hg.block b hlt (fun e => h.wb e.symm)), ?_, ?_, h.lb, h.below.grown hg h.below.size (fun k hk => h.words.block k hk), Nat.le_trans h.room hg.size⟩
  · show some g ≠ vl.ownBlock
    rcases hat with e | e
    · rw [← e]; exact h.apart
    · intro e2
      have := (World.ownsRow.lt h.labs g e2.symm).2
      omega
  · show some g ≠ some b
    rcases hat with e | e
    · rw [← e]; exact h.wb
    · intro e2
      cases e2
      omega
theorem St.start {w w2 : World} {a : Option Addr} {lines : List ByteArray} (hf : FldL w2 (w.heap.size + 2) a lines) (hb : Below ((w.alloc (.cells #[] 42)).alloc (.cells #[] 71)).heap.size ((w.alloc (.cells #[] 42)).alloc (.cells #[] 71)) w2) :
    ∃ b, St w w2 b a lines (.slice (some ⟨w.heap.size, 0, none⟩) 0 0) [] (.slice (some ⟨w.heap.size + 1, 0, none⟩) 0 0) [] := by
  have h1 : ∀ b, w.heap.size + 2 ≤ b → FldB w2 b a lines → St w w2 b a lines (.slice (some ⟨w.heap.size, 0, none⟩) 0 0) [] (.slice (some ⟨w.heap.size + 1, 0, none⟩) 0 0) [] := by
    intro b hlo hB
    refine ⟨owns_below ((own_nil w w.heap.size 42 1 (Nat.le_refl _)).alloc _) hb, ?_, hB, ?_, ?_, ?_, ?_, by have := hb.size; simp at this; omega⟩
    · have h := own_nil (w.alloc (.cells #[] 42)) (w.heap.size + 1) 71 2 (by simp)
      have e : (w.alloc (.cells #[] 42)).heap.size = w.heap.size + 1 := by simp
      rw [e] at h
      exact owns_below h hb
    · show some w.heap.size ≠ some (w.heap.size + 1)
      simp
    · show some w.heap.size ≠ some b
      intro e; cases e; omega
    · show some (w.heap.size + 1) ≠ some b
      intro e; cases e; omega
    · exact (((Below.refl _ _).alloc (Nat.le_refl _) _).alloc (by simp) _).trans (hb.mono (by simp; omega))
  by_cases h0 : 0 < lines.length
  · obtain ⟨b, off, e, hlt, hc⟩ := hf.1 h0
    exact ⟨b, h1 b (hf.2 b off e) (fun _ => ⟨hlt, off, e, hc⟩)⟩
  · exact ⟨w.heap.size + 2, h1 _ (Nat.le_refl _) (fun h => absurd h h0)⟩
theorem results_tmp4 {fn : Func} {t u v x : Tmp} (h : fn.results = #[.tmp t, .tmp u, .tmp v, .tmp x]) (tmps : Array Value) (P : Program) (w : World) :
    (results fn tmps).run P w = .ok (.tuple #[tmps.getD t undef, tmps.getD u undef, tmps.getD v undef, tmps.getD x undef]) w := by
  simp [results, h]
/-- What l03All returns. -/
def AllPost (w : World) (R : List Int × Am.Labs × Int × Int) (e : Ending) (w' : World) : Prop :=
  ∃ vw vl, e = .returned (.tuple #[vw, vl, .int .i64 R.2.2.1, .int .i64 R.2.2.2]) ∧ OwnW w' w.heap.size vw R.1 ∧ OwnLb w' w.heap.size vl R.2.1 ∧ Below w.heap.size w w'
theorem own_base {w : World} {base base' : Nat} {e : TypeId} {size : Nat} {v : Value} {n : Nat} {xs : List Value} (h : w.ownsRow base e size v n xs) (hb : base' ≤ base) : w.ownsRow base' e size v n xs := by
  refine ⟨h.1, ?_⟩
  rcases h.2 with h0 | ⟨g, cap, cur, hv, hg, r⟩
  · exact .inl h0
  · exact .inr ⟨g, cap, cur, hv, by omega, r⟩
/-- A return with no words: a new list of none. -/
theorem St.refuse {w wr : World} {b : Nat} {a : Option Addr} {lines : List ByteArray} {vw : Value} {ws : List Int} {vl : Value} {ls : Am.Labs} (h : St w wr b a lines vw ws vl ls) {R : List Int × Am.Labs × Int × Int} {c l : Int} {H : Nat} (hH : wr.heap.size = H) (e : R = ([], ls, c, l)) :
    AllPost w R (.returned (.tuple #[.slice (some ⟨H, 0, none⟩) 0 0, vl, .int .i64 c, .int .i64 l])) (wr.alloc (.cells #[] 42)) := by
  subst e
  subst hH
  exact ⟨_, _, rfl, own_nil wr w.heap.size 42 1 h.below.size, own_base (World.ownsRow.alloc h.labs _) (by omega), h.below.alloc h.below.size _⟩
theorem St.done {w wr : World} {b : Nat} {a : Option Addr} {lines : List ByteArray} {vw : Value} {ws : List Int} {vl : Value} {ls : Am.Labs} (h : St w wr b a lines vw ws vl ls) {R : List Int × Am.Labs × Int × Int} {c l : Int} (e : R = (ws, ls, c, l)) :
    AllPost w R (.returned (.tuple #[vw, vl, .int .i64 c, .int .i64 l])) wr := by
  subst e
  exact ⟨_, _, rfl, h.words, own_base h.labs (by omega), h.below⟩
theorem OwnLb.at' {w : World} {base : Nat} {v : Value} {ls : Am.Labs} (h : OwnLb w base v ls) : ∃ a cap, v = .slice a ls.length cap ∧ LbAt w a ls := OwnLb.at h
theorem newsLbH (w : World) (H : Nat) (x y : Value) (hH : w.heap.size = H) : ∀ j u, [x, y][j]? = some u → (w.alloc (.cells #[x, y] 71)).cell? ((⟨H, 0, none⟩ : Addr).add j) = some u := by
  subst hH
  exact newsLb w x y
theorem newsWH (w : World) (H : Nat) (x : Value) (hH : w.heap.size = H) : ∀ j u, [x][j]? = some u → (w.alloc (.cells #[x] 42)).cell? ((⟨H, 0, none⟩ : Addr).add j) = some u := by
  subst hH
  exact newsW w x
theorem Am.fin1 {R : List Int × Am.Labs × Int × Int} {S : Int × Int × Am.Labs} {c l : Int} {ls : Am.Labs} (HE : S.1 ≠ 0 → R = ([], S.2.2, S.1, S.2.1)) (h : (c, l, ls) = S) (hc : c ≠ 0) : R = ([], ls, c, l) := by
  subst h
  exact HE hc
theorem Am.find_range (ls : Am.Labs) (x : ByteArray) (h : ∀ p ∈ ls, 0 ≤ p.2 ∧ p.2 ≤ 256) : -1 ≤ Am.find ls x ∧ Am.find ls x ≤ 256 := by
  induction ls with
  | nil => exact ⟨by simp [Am.find], by simp [Am.find]⟩
  | cons p ls ih =>
    rw [Am.find]
    split
    · have := h p (by simp); omega
    · exact ih (fun q hq => h q (by simp [hq]))
end Go.Proofs.YtdjapcfejmhjnaaGreatDoor
namespace Go.Proofs.YtdjapcfejmhjnaaGreatDoor
open Go.ChangeShapes Go.WideShapes Go.ChangeAt Go.RowKit Go.Deep
set_option linter.unusedVariables false
set_option maxRecDepth 20000

theorem spec_rl8 (s : ByteArray) (w : World) (hs : s.size ≤ 1048576) :
    Calls Tryz.prog 58 #[.string s] w fun e w' => ∃ kd op a b c m wd lab, Hid (Rl.line s = ⟨kd, op, a, b, c, m, wd, lab⟩) ∧ e = .returned (.agg #[.int .i64 kd, .int .i64 op, .int .i64 a, .int .i64 b, .int .i64 c, .int .i64 m, .int .u32 wd, .string lab]) ∧ Below w.heap.size w w' := by
  refine (spec_rl s w hs).mono ?_
  rintro e w' ⟨rfl, hb⟩
  exact ⟨_, _, _, _, _, _, _, _, rfl, rfl, hb⟩
theorem spec_all_no (s : ByteArray) (R : List Int × Am.Labs × Int × Int) (w : World) (hs : s.size ≤ 1048576) (hok : Ln.ok s = false) (HR : Hid (R = ([], [], 1, 0))) :
    Calls Tryz.prog 33 #[.string s] w (AllPost w R) := by
  go_enter Tryz.func33, Tryz.ntmps33
  go_wp2_with fail
  refine (spec_lines s _ hs).mono ?_
  rintro e w1 ⟨a, cap, rfl, -, hb⟩
  rw [hok]
  go_wp2
  ((try simp only [Exit.inBlock, Exit.then]); refine bodyPost_ret (results_tmp4 rfl _ _ _) rfl ?_)
  rw [HR.out]
  refine ⟨_, _, rfl, own_nil w1 w.heap.size 42 1 (by have := hb.size; simp at this; omega), ?_, ?_⟩
  · have h := own_nil (w.alloc (.cells #[] 42)) w.heap.size 71 2 (by simp)
    have e : (w.alloc (.cells #[] 42)).heap.size = w.heap.size + 1 := by simp
    rw [e] at h
    exact World.ownsRow.alloc (owns_below h hb) _
  · exact ((((Below.refl _ _).alloc (Nat.le_refl _) _).alloc (by simp) _).trans (hb.mono (by simp; omega))).alloc (by have := hb.size; simp at this; omega) _
set_option maxHeartbeats 2000000 in
theorem spec_all_ok (s : ByteArray) (R : List Int × Am.Labs × Int × Int) (L : Nat) (lines : List ByteArray) (S : Int × Int × Am.Labs) (w : World) (hs : s.size ≤ 1048576) (hok : Ln.ok s = true) (hL6 : L ≤ 1048576) (HL : Hid (L = lines.length)) (HP : Hid (Ln.pieces s = lines)) (HX : Hid (∀ x ∈ lines, x.size ≤ 1048576))
    (HS : Hid (Am.scan (lines.map Rl.line) 0 0 [] = S)) (HE : Hid (S.1 ≠ 0 → R = ([], S.2.2, S.1, S.2.1))) (HF : Hid (S.1 = 0 → R = ((Am.link (lines.map Rl.line) 0 [] S.2.2).1, S.2.2, (Am.link (lines.map Rl.line) 0 [] S.2.2).2.1, (Am.link (lines.map Rl.line) 0 [] S.2.2).2.2))) :
    Calls Tryz.prog 33 #[.string s] w (AllPost w R) := by
  obtain ⟨i9, hi9, hz9, hs9, hb9⟩ := infoLb'
  have HI : Hid _ := And.intro hi9 (And.intro hz9 (And.intro hs9 hb9))
  clear hi9 hz9 hs9 hb9
  obtain ⟨i8, hi8, hz8, hs8, hb8⟩ := infoW'
  have HJ : Hid _ := And.intro hi8 (And.intro hz8 (And.intro hs8 hb8))
  clear hi8 hz8 hs8 hb8
  have HS0 : Hid (∀ (w1 w2 : World) (a : Option Addr), FldL w2 (w.heap.size + 2) a lines → Below ((w.alloc (.cells #[] 42)).alloc (.cells #[] 71)).heap.size ((w.alloc (.cells #[] 42)).alloc (.cells #[] 71)) w2 → ∃ b, St w w2 b a lines (.slice (some ⟨w.heap.size, 0, none⟩) 0 0) [] (.slice (some ⟨w.heap.size + 1, 0, none⟩) 0 0) []) := fun w1 w2 a h1 h2 => St.start h1 h2
  go_enter Tryz.func33, Tryz.ntmps33
  go_wp2_with fail
  refine (spec_lines s _ hs).mono ?_
  rintro e w1 ⟨a, cap, rfl, hf, hb⟩
  have hlen : (if Ln.ok s = true then (Ln.pieces s).length else 0) = L := by rw [if_pos hok, HP.out, HL.out]
  rw [hlen, hok]
  have hf' := hf hok
  rw [HP.out] at hf'
  have h2s : ((w.alloc (.cells #[] 42)).alloc (.cells #[] 71)).heap.size = w.heap.size + 2 := by simp
  have h2s' := h2s
  have hb' := hb
  obtain ⟨b, hst⟩ := HS0.out w1 w1 a (by rw [h2s] at hf'; exact hf') hb
  have HST : Hid _ := hst
  clear hst hf hf' hb hb' h2s h2s' hlen
  go_wp2
  go_loopw [7, 10, 11] (fun v n i wr => ∃ (k m : Nat) (ls : Am.Labs), k ≤ L ∧ m ≤ 256 ∧ n = .int .i64 m ∧ i = .int .i64 k ∧ Hid (ls.length ≤ k ∧ (∀ p ∈ ls, 0 ≤ p.2 ∧ p.2 ≤ 256) ∧ St w wr b a lines (.slice (some ⟨w.heap.size, 0, none⟩) 0 0) [] v ls ∧ Am.scan ((lines.map Rl.line).drop k) k m ls = S)) (fun _ _ i _ => L - (intOf i).toNat)
  case atStart => exact ⟨0, 0, [], by omega, by omega, rfl, rfl, by simp, by simp, HST.out, HS.out⟩
  case round =>
    obtain ⟨k, m, ls, hk, hm, rfl, rfl, HR⟩ := hrel
    by_cases hlt : k < L
    · have hlt' : (k : Int) < (L : Int) := by omega
      have hkl : k < lines.length := by rw [← HL.out]; exact hlt
      obtain ⟨hbl, off, rfl, hc⟩ := HR.out.2.2.1.lines (by omega)
      have hcell := hc k lines[k] (List.getElem?_eq_getElem hkl)
      have hxs := HX.out _ (List.getElem_mem hkl)
      have HD : Hid (Am.scan (Rl.line lines[k] :: (lines.map Rl.line).drop (k + 1)) k m ls = S) := by
        have h := HR.out.2.2.2
        rw [List.drop_eq_getElem_cons (by rw [List.length_map]; exact hkl), List.getElem_map] at h
        exact h
      clear hc
      generalize lines[k] = x at hcell hxs HD
      go_wp2_with fail
      refine (spec_rl8 x _ hxs).mono ?_
      rintro e w2 ⟨kd, op, xa, xb, xc, xm, wd, lab, HA, rfl, hb2⟩
      have HT : Hid _ := HR.out.2.2.1.hop hb2
      have HB2 : Hid _ := hb2
      rw [HA.out] at HD
      clear hb2
      by_cases h0 : kd = 0
      · have h0' : (kd == 0) = true := by rw [h0]; rfl
        have HQ : Hid (R = ([], ls, 2, (k : Int) + 1)) := by
          have h := HD.out
          rw [Am.scan, if_pos h0] at h
          exact Am.fin1 HE.out h (by omega)
        clear h0
        go_wp2
        ((try simp only [Exit.inBlock, Exit.then]); refine bodyPost_ret (results_tmp4 rfl _ _ _) rfl ?_)
        exact St.refuse (HT.out.hop ((Below.refl _ _).alloc (Nat.le_refl _) _)) (by simp) HQ.out
      · have h0' : (kd == 0) = false := by simpa using h0
        obtain ⟨al, cl, hv, hla⟩ := OwnLb.at HT.out.labs
        generalize hn : ls.length = nl at hv
        have HN : Hid (nl = ls.length) := hn.symm
        have hnl : nl ≤ 1048576 := by have := HR.out.1; omega
        clear hn
        subst hv
        have HLA : Hid (LbAt w2 al ls) := hla
        clear hla
        by_cases h1 : kd = 1
        · have h1' : (kd == 1) = true := by rw [h1]; rfl
          have HDD : Hid ((if 0 ≤ Am.find ls lab then ((3 : Int), ((k + 1 : Nat) : Int), ls) else Am.scan ((lines.map Rl.line).drop (k + 1)) (k + 1) m (ls ++ [(lab, (m : Int))])) = S) := by
            have h := HD.out
            rw [Am.scan, if_neg h0, if_pos h1] at h
            exact h
          clear h0 h1
          generalize hfd : Am.find ls lab = fd at HDD
          have HFD : Hid _ := hfd
          clear hfd
          by_cases h3 : 0 ≤ fd
          · have HQ : Hid (R = ([], ls, 3, (k : Int) + 1)) := by
              have h := HDD.out
              rw [if_pos h3] at h
              exact Am.fin1 HE.out h (by omega)
            go_wp2_with fail
            refine (spec_find al nl cl ls lab fd _ HN (LbAt.below HLA.out ((Below.refl _ _).alloc (Nat.le_refl _) _)) hnl HFD).mono ?_
            rintro e w3 ⟨rfl, rfl⟩
            go_wp2
            ((try simp only [Exit.inBlock, Exit.then]); refine bodyPost_ret (results_tmp4 rfl _ _ _) rfl ?_)
            exact St.refuse (HT.out.hop ((Below.refl _ _).alloc (Nat.le_refl _) _)) (by simp) HQ.out
          · have HQ : Hid (Am.scan ((lines.map Rl.line).drop (k + 1)) (k + 1) m (ls ++ [(lab, (m : Int))]) = S) := by
              have h := HDD.out
              rw [if_neg h3] at h
              exact h
            have HT3 : Hid _ := HT.out.hop ((Below.refl _ _).alloc (Nat.le_refl _) (.cells #[.int .i64 kd, .int .i64 op, .int .i64 xa, .int .i64 xb, .int .i64 xc, .int .i64 xm, .int .u32 wd, .string lab] 114))
            have HT4 : Hid _ := HT3.out.hop ((Below.refl _ _).alloc (Nat.le_refl _) (.cells #[.string lab, .int .i64 m] 71))
            have hown := HT4.out.labs
            unfold OwnLb at hown
            rw [← HN.out] at hown
            have hpos : 0 < lines.length := by omega
            have hsz : w.heap.size + 2 ≤ w2.heap.size := HT.out.room
            go_wp2_with fail
            refine (spec_find al nl cl ls lab fd _ HN (LbAt.below HLA.out ((Below.refl _ _).alloc (Nat.le_refl _) _)) hnl HFD).mono ?_
            rintro e w3 ⟨rfl, rfl⟩
            go_wp2_with (at_builtin; (refine wpList_append_lies _ rfl (.tmp 72) (.tmp 77) 31 rfl (w.heap.size + 1) 71 i9 (.agg #[.string ⟨#[]⟩, .int .i64 0]) 2 24 Tryz.underlying31 HI.out.1 HI.out.2.1 HI.out.2.2.1 HI.out.2.2.2 rfl (by omega) _ _ _ rfl hown _ 1 1 [.string lab, .int .i64 m] rfl rfl (newsLbH _ _ _ _ (by simp)) (oneLb _ _) (by omega) (by unfold maxLen; omega) (by omega) (by simp; omega) _ rfl ?_; intro g cap1 w4 hown1 hgrow hat hlt1))
            go_wp2
            go_roundw
            case rel =>
              refine ⟨k + 1, m, ls ++ [(lab, (m : Int))], by omega, hm, rfl, by go_num, ?_, ?_, ?_, HQ.out⟩
              · have := HR.out.1; simp; omega
              · intro p hp
                rw [List.mem_append, List.mem_singleton] at hp
                rcases hp with hp | rfl
                · exact HR.out.2.1 p hp
                · exact ⟨by simp, by simp; omega⟩
              · have hat' := hat
                have hN := HN.out
                subst hN
                exact HT4.out.lab hpos hown1 hgrow hat rfl
            case measure => simp [intOf]; omega
        · have h1' : (kd == 1) = false := by simpa using h1
          have HDD : Hid ((if 256 ≤ m then ((4 : Int), ((k + 1 : Nat) : Int), ls) else Am.scan ((lines.map Rl.line).drop (k + 1)) (k + 1) (m + 1) ls) = S) := by
            have h := HD.out
            rw [Am.scan, if_neg h0, if_neg h1] at h
            exact h
          clear h0 h1
          by_cases h4 : 256 ≤ m
          · have HQ : Hid (R = ([], ls, 4, (k : Int) + 1)) := by
              have h := HDD.out
              rw [if_pos h4] at h
              exact Am.fin1 HE.out h (by omega)
            have h4' : (256 : Int) ≤ (m : Int) := by omega
            go_wp2
            ((try simp only [Exit.inBlock, Exit.then]); refine bodyPost_ret (results_tmp4 rfl _ _ _) rfl ?_)
            exact St.refuse (HT.out.hop ((Below.refl _ _).alloc (Nat.le_refl _) _)) (by simp) HQ.out
          · have HQ : Hid (Am.scan ((lines.map Rl.line).drop (k + 1)) (k + 1) (m + 1) ls = S) := by
              have h := HDD.out
              rw [if_neg h4] at h
              exact h
            have h4' : ¬ (256 : Int) ≤ (m : Int) := by omega
            go_wp2
            go_roundw
            case rel => exact ⟨k + 1, m + 1, ls, by omega, by omega, by go_num, by go_num, by have := HR.out.1; omega, HR.out.2.1, HT.out.hop ((Below.refl _ _).alloc (Nat.le_refl _) _), HQ.out⟩
            case measure => simp [intOf]; omega
    · obtain rfl : k = L := by omega
      have HQ : Hid (((0 : Int), (0 : Int), ls) = S) := by
        have h := HR.out.2.2.2
        rw [List.drop_of_length_le (by rw [List.length_map, ← HL.out]; exact Nat.le_refl _)] at h
        exact h
      have HK : Hid (R = ((Am.link (lines.map Rl.line) 0 [] ls).1, ls, (Am.link (lines.map Rl.line) 0 [] ls).2.1, (Am.link (lines.map Rl.line) 0 [] ls).2.2)) := by
        have h := HF.out
        rw [← HQ.out] at h
        exact h rfl
      generalize hT : Am.link (lines.map Rl.line) 0 [] ls = T at HK
      have HTT : Hid _ := hT
      clear hT
      have HG : Hid (∀ p ∈ ls, 0 ≤ p.2 ∧ p.2 ≤ 256) := HR.out.2.1
      have HS1 : Hid _ := HR.out.2.2.1
      obtain ⟨al, cl, hv, -⟩ := OwnLb.at HS1.out.labs
      generalize hn : ls.length = nl at hv
      have HN : Hid (nl = ls.length) := hn.symm
      have hnl : nl ≤ 1048576 := by have := HR.out.1; omega
      clear hn
      subst hv
      clear HR HQ HE HF HS
      go_wp2
      go_loopw [6, 13] (fun v i wr => ∃ (j : Nat) (ws : List Int), j ≤ k ∧ i = .int .i64 j ∧ Hid (ws.length ≤ j ∧ St w wr b a lines v ws (.slice al nl cl) ls ∧ Am.link ((lines.map Rl.line).drop j) j ws ls = T)) (fun _ i _ => k - (intOf i).toNat)
      case atStart => exact ⟨0, [], by omega, rfl, by simp, HS1.out, HTT.out⟩
      case round =>
        obtain ⟨j, ws, hj, rfl, HR⟩ := hrel
        by_cases hlt : j < k
        · have hlt' : (j : Int) < (k : Int) := by omega
          have hkl : j < lines.length := by rw [← HL.out]; exact hlt
          have hpos : 0 < lines.length := by omega
          obtain ⟨hbl, off, rfl, hc⟩ := HR.out.2.1.lines hpos
          have hcell := hc j lines[j] (List.getElem?_eq_getElem hkl)
          have hxs := HX.out _ (List.getElem_mem hkl)
          have HD : Hid (Am.link (Rl.line lines[j] :: (lines.map Rl.line).drop (j + 1)) j ws ls = T) := by
            have h := HR.out.2.2
            rw [List.drop_eq_getElem_cons (by rw [List.length_map]; exact hkl), List.getElem_map] at h
            exact h
          clear hc
          generalize lines[j] = x at hcell hxs HD
          obtain ⟨aw, cw, hv, -⟩ := OwnW.seg HR.out.2.1.words
          generalize hn : ws.length = mw at hv
          have HM : Hid (mw = ws.length) := hn.symm
          have hmw : mw ≤ j := by have := HR.out.1; omega
          clear hn
          subst hv
          go_wp2_with fail
          refine (spec_rl8 x _ hxs).mono ?_
          rintro e w2 ⟨kd, op, xa, xb, xc, xm, wd, lab, HA, rfl, hb2⟩
          have HT : Hid _ := HR.out.2.1.hop hb2
          rw [HA.out] at HD
          clear hb2
          have HT3 : Hid _ := HT.out.hop ((Below.refl _ _).alloc (Nat.le_refl _) (.cells #[.int .i64 kd, .int .i64 op, .int .i64 xa, .int .i64 xb, .int .i64 xc, .int .i64 xm, .int .u32 wd, .string lab] 114))
          by_cases h2 : kd = 2
          · have h2' : (kd == 2) = true := by rw [h2]; rfl
            have HQ : Hid (Am.link ((lines.map Rl.line).drop (j + 1)) (j + 1) (ws ++ [wd]) ls = T) := by
              have h := HD.out
              rw [Am.link, if_pos h2] at h
              exact h
            clear h2
            have HT4 : Hid _ := HT3.out.hop ((Below.refl _ _).alloc (Nat.le_refl _) (.cells #[.int .u32 wd] 42))
            have hown := HT4.out.words
            unfold OwnW at hown
            rw [← HM.out] at hown
            have hsz := HT.out.room
            go_wp2_with (at_builtin; (refine wpList_append_lies _ rfl (.tmp 101) (.tmp 104) 24 rfl w.heap.size 42 i8 (.int .u32 0) 1 4 Tryz.underlying24 HJ.out.1 HJ.out.2.1 HJ.out.2.2.1 HJ.out.2.2.2 rfl (by omega) _ _ _ rfl hown _ 1 1 [.int .u32 wd] rfl rfl (newsWH _ _ _ (by simp)) (oneW _) (by omega) (by unfold maxLen; omega) (by omega) (by simp; omega) _ rfl ?_; intro g cap1 w4 hown1 hgrow hat hlt1))
            go_wp2
            go_roundw
            case rel =>
              refine ⟨j + 1, ws ++ [wd], by omega, by go_num, ?_, ?_, HQ.out⟩
              · have := HR.out.1; simp; omega
              · have hN := HM.out
                subst hN
                exact HT4.out.word hpos hown1 hgrow hat rfl
            case measure => simp [intOf]; omega
          · have h2' : (kd == 2) = false := by simpa using h2
            by_cases h3 : kd = 3
            · have h3' : (kd == 3) = true := by rw [h3]; rfl
              have HQ : Hid (Am.link ((lines.map Rl.line).drop (j + 1)) (j + 1) (ws ++ [Am.enc op xa xb xc xm]) ls = T) := by
                have h := HD.out
                rw [Am.link, if_neg h2, if_pos h3] at h
                exact h
              clear h2 h3
              generalize hz : Am.enc op xa xb xc xm = z at HQ
              have HC : Hid (∀ X, Calls Tryz.prog 22 #[ins op xa xb xc xm] X fun e w' => ∃ q, e = .returned (.tuple #[.int .u32 z, .bool q]) ∧ Below X.heap.size X w') := by
                show ∀ X, _
                intro X
                rw [← hz]
                unfold Am.enc
                cases hi : instrOk op xa xb xc xm with
                | true => exact (spec_enc op xa xb xc xm X hi).mono (fun e w' ⟨h1, h2⟩ => ⟨_, h1, h2⟩)
                | false => exact (spec_enc_no op xa xb xc xm X hi).mono (fun e w' ⟨h1, h2⟩ => ⟨_, h1, h2⟩)
              clear hz
              go_wp2_with fail
              refine (HC.out _).mono ?_
              rintro e w3 ⟨q, rfl, hb3⟩
              have HT5 : Hid _ := HT3.out.hop hb3
              clear hb3
              have HT4 : Hid _ := HT5.out.hop ((Below.refl _ _).alloc (Nat.le_refl _) (.cells #[.int .u32 z] 42))
              have hown := HT4.out.words
              unfold OwnW at hown
              rw [← HM.out] at hown
              have hsz := HT5.out.room
              go_wp2_with (at_builtin; (refine wpList_append_lies _ rfl (.tmp 114) (.tmp 116) 24 rfl w.heap.size 42 i8 (.int .u32 0) 1 4 Tryz.underlying24 HJ.out.1 HJ.out.2.1 HJ.out.2.2.1 HJ.out.2.2.2 rfl (by omega) _ _ _ rfl hown _ 1 1 [.int .u32 z] rfl rfl (newsWH _ _ _ (by simp)) (oneW _) (by omega) (by unfold maxLen; omega) (by omega) (by simp; omega) _ rfl ?_; intro g cap1 w4 hown1 hgrow hat hlt1))
              go_wp2
              go_roundw
              case rel =>
                refine ⟨j + 1, ws ++ [z], by omega, by go_num, ?_, ?_, HQ.out⟩
                · have := HR.out.1; simp; omega
                · have hN := HM.out
                  subst hN
                  exact HT4.out.word hpos hown1 hgrow hat rfl
              case measure => simp [intOf]; omega
            · have h3' : (kd == 3) = false := by simpa using h3
              by_cases h4 : kd = 4
              · have h4' : (kd == 4) = true := by rw [h4]; rfl
                have HDD : Hid ((if Am.find ls lab < 0 then (([] : List Int), (5 : Int), ((j + 1 : Nat) : Int)) else if instrOk op xa xb xc (Am.find ls lab - (ws.length : Int) - 1) = true then Am.link ((lines.map Rl.line).drop (j + 1)) (j + 1) (ws ++ [Am.enc op xa xb xc (Am.find ls lab - (ws.length : Int) - 1)]) ls else ([], 6, ((j + 1 : Nat) : Int))) = T) := by
                  have h := HD.out
                  rw [Am.link, if_neg h2, if_neg h3, if_pos h4] at h
                  exact h
                clear h2 h3 h4
                have hfr := Am.find_range ls lab HG.out
                have HLA : Hid (LbAt _ al ls) := (by
                  obtain ⟨al2, cl2, hv2, hl2⟩ := OwnLb.at HT3.out.labs
                  cases hv2
                  exact hl2)
                rw [← HM.out] at HDD
                generalize hfd : Am.find ls lab = fd at HDD hfr
                have HFD : Hid _ := hfd
                clear hfd
                by_cases h5 : fd < 0
                · have HQ : Hid (([], 5, ((j + 1 : Nat) : Int)) = T) := by
                    have h := HDD.out
                    rw [if_pos h5] at h
                    exact h
                  go_wp2_with fail
                  refine (spec_find al nl cl ls lab fd _ HN HLA.out hnl HFD).mono ?_
                  rintro e w3 ⟨rfl, rfl⟩
                  go_wp2
                  ((try simp only [Exit.inBlock, Exit.then]); refine bodyPost_ret (results_tmp4 rfl _ _ _) rfl ?_)
                  exact St.refuse HT3.out (by simp) (by rw [HK.out, ← HQ.out]; rfl)
                · have hw1 : IntKind.i64.wrap (fd - mw) = fd - mw := by rw [IntKind.wrap_i64]; omega
                  have hw2 : IntKind.i64.wrap (fd - mw - 1) = fd - mw - 1 := by rw [IntKind.wrap_i64]; omega
                  rw [if_neg h5] at HDD
                  have HT6 : Hid _ := HT3.out.hop ((Below.refl _ _).alloc (Nat.le_refl _) (.cells #[.int .i64 op, .int .i64 xa, .int .i64 xb, .int .i64 xc, .int .i64 (fd - (mw : Int) - 1)] 46))
                  cases hi : instrOk op xa xb xc (fd - mw - 1) with
                  | true =>
                    have HQ : Hid (Am.link ((lines.map Rl.line).drop (j + 1)) (j + 1) (ws ++ [Am.enc op xa xb xc (fd - mw - 1)]) ls = T) := by
                      have h := HDD.out
                      rw [if_pos hi] at h
                      exact h
                    generalize hz : Am.enc op xa xb xc (fd - mw - 1) = z at HQ
                    have HC : Hid (∀ X, Calls Tryz.prog 22 #[ins op xa xb xc (fd - mw - 1)] X fun e w' => e = .returned (.tuple #[.int .u32 z, .bool true]) ∧ Below X.heap.size X w') := by
                      show ∀ X, _
                      intro X
                      rw [← hz]
                      unfold Am.enc
                      rw [if_pos hi]
                      exact spec_enc op xa xb xc _ X hi
                    clear hz hi HDD
                    go_wp2_with fail
                    refine (spec_find al nl cl ls lab fd _ HN HLA.out hnl HFD).mono ?_
                    rintro e w3 ⟨rfl, rfl⟩
                    go_wp2_with fail
                    refine (HC.out _).mono ?_
                    rintro e w5 ⟨rfl, hb5⟩
                    have HT5 : Hid _ := HT6.out.hop hb5
                    clear hb5
                    have HT4 : Hid _ := HT5.out.hop ((Below.refl _ _).alloc (Nat.le_refl _) (.cells #[.int .u32 z] 42))
                    have hown := HT4.out.words
                    unfold OwnW at hown
                    rw [← HM.out] at hown
                    have hsz := HT5.out.room
                    go_wp2_with (at_builtin; (refine wpList_append_lies _ rfl (.tmp 149) (.tmp 151) 24 rfl w.heap.size 42 i8 (.int .u32 0) 1 4 Tryz.underlying24 HJ.out.1 HJ.out.2.1 HJ.out.2.2.1 HJ.out.2.2.2 rfl (by omega) _ _ _ rfl hown _ 1 1 [.int .u32 z] rfl rfl (newsWH _ _ _ (by simp)) (oneW _) (by omega) (by unfold maxLen; omega) (by omega) (by simp; omega) _ rfl ?_; intro g cap1 w4 hown1 hgrow hat hlt1))
                    go_wp2
                    go_roundw
                    case rel =>
                      refine ⟨j + 1, ws ++ [z], by omega, by go_num, ?_, ?_, HQ.out⟩
                      · have := HR.out.1; simp; omega
                      · have hN := HM.out
                        subst hN
                        exact HT4.out.word hpos hown1 hgrow hat rfl
                    case measure => simp [intOf]; omega
                  | false =>
                    have HQ : Hid (([], 6, ((j + 1 : Nat) : Int)) = T) := by
                      have h := HDD.out
                      rw [if_neg (by rw [hi]; simp)] at h
                      exact h
                    have HC : Hid (∀ X, Calls Tryz.prog 22 #[ins op xa xb xc (fd - mw - 1)] X fun e w' => e = .returned (.tuple #[.int .u32 0, .bool false]) ∧ Below X.heap.size X w') := fun X => spec_enc_no op xa xb xc _ X hi
                    clear hi HDD
                    go_wp2_with fail
                    refine (spec_find al nl cl ls lab fd _ HN HLA.out hnl HFD).mono ?_
                    rintro e w3 ⟨rfl, rfl⟩
                    go_wp2_with fail
                    refine (HC.out _).mono ?_
                    rintro e w5 ⟨rfl, hb5⟩
                    have HT5 : Hid _ := HT6.out.hop hb5
                    clear hb5
                    go_wp2
                    ((try simp only [Exit.inBlock, Exit.then]); refine bodyPost_ret (results_tmp4 rfl _ _ _) rfl ?_)
                    exact St.refuse HT5.out rfl (by rw [HK.out, ← HQ.out]; rfl)
              · have h4' : (kd == 4) = false := by simpa using h4
                have HQ : Hid (Am.link ((lines.map Rl.line).drop (j + 1)) (j + 1) ws ls = T) := by
                  have h := HD.out
                  rw [Am.link, if_neg h2, if_neg h3, if_neg h4] at h
                  exact h
                clear h2 h3 h4
                go_wp2
                go_roundw
                case rel => exact ⟨j + 1, ws, by omega, by go_num, by have := HR.out.1; omega, HT3.out, HQ.out⟩
                case measure => simp [intOf]; omega
        · obtain rfl : j = k := by omega
          have HQ : Hid ((ws, (0 : Int), (0 : Int)) = T) := by
            have h := HR.out.2.2
            rw [List.drop_of_length_le (by rw [List.length_map, ← HL.out]; exact Nat.le_refl _)] at h
            exact h
          go_wp2
          ((try simp only [Exit.inBlock, Exit.then]); refine bodyPost_ret (results_tmp4 rfl _ _ _) rfl ?_)
          exact St.done HR.out.2.1 (by rw [HK.out, ← HQ.out])
/-- What l03All answers. -/
theorem spec_all (s : ByteArray) (w : World) (hs : s.size ≤ 1048576) : Calls Tryz.prog 33 #[.string s] w (AllPost w (Am.all s)) := by
  cases hok : Ln.ok s with
  | false => exact spec_all_no s _ w hs hok (by show Am.all s = _; unfold Am.all; rw [hok]; rfl)
  | true =>
    refine spec_all_ok s _ (Ln.pieces s).length (Ln.pieces s) _ w hs hok (by have := Ln.pieces_many s; omega) rfl rfl (fun x hx => by have := Ln.pieces_short s x hx; omega) rfl ?_ ?_
    · show _ → _
      intro h
      unfold Am.all
      rw [if_pos hok]
      exact if_pos h
    · show _ → _
      intro h
      unfold Am.all
      rw [if_pos hok]
      exact if_neg (by simpa using h)
end Go.Proofs.YtdjapcfejmhjnaaGreatDoor
