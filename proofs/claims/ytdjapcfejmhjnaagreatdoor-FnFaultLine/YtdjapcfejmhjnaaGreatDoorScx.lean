/-
  What the program's scan keeps in memory while it reads. Plain facts on worlds.
  What the program's scan is to return (said, not yet proved), and what it keeps as its loop begins. Plain facts.
  What a line that was read holds: its label is no longer than the line, an instruction without a label is right. Plain facts.
  What the program's scan returns.
-/
import Derived.Test.YtdjapcfejmhjnaaGreatDoorMpx
import Derived.Test.YtdjapcfejmhjnaaGreatDoorLnd
import Derived.Carry
import Derived.WalkMore
import Derived.Test.YtdjapcfejmhjnaaGreatDoorRl
import Derived.Test.YtdjapcfejmhjnaaGreatDoorInstr
import Derived.Test.YtdjapcfejmhjnaaGreatDoorRdx
namespace Go.Proofs.YtdjapcfejmhjnaaGreatDoor
open Go.ChangeShapes Go.WideShapes Go.ChangeAt Go.RowKit Go.Deep Go.Maps
set_option linter.unusedVariables false
set_option maxRecDepth 20000

/-- Lines of code as they lie in memory: nine cells each. -/
def codeCells (cs : List (Int × Rl.A8)) : List Value := cs.flatMap fun p => l9 p.1 p.2.kind p.2.op p.2.a p.2.b p.2.c p.2.m p.2.wd p.2.lab
theorem codeCells_snoc (cs : List (Int × Rl.A8)) (ln kd op a b c m wd : Int) (lab : ByteArray) : codeCells (cs ++ [(ln, ⟨kd, op, a, b, c, m, wd, lab⟩)]) = codeCells cs ++ l9 ln kd op a b c m wd lab := by simp [codeCells]
/-- What scan keeps: its result's variable, the map, the source and the lines are its first four blocks; the lines of code lie behind. -/
structure Sc (w wr : World) (a : Option Addr) (lines : List ByteArray) (v : Value) (cs : List (Int × Rl.A8)) (ls : Am.Labs) : Prop where
  c0 : wr.cell? ⟨w.heap.size + 2, 0, none⟩ = some v
  c1 : wr.cell? ⟨w.heap.size + 2, 1, none⟩ = some (.map (some (w.heap.size + 1)))
  fz : wr.frozen? ⟨w.heap.size + 2, 0, none⟩ = false
  r0 : wr.cell? ⟨w.heap.size, 0, none⟩ = some (.slice none 0 0)
  r1 : wr.cell? ⟨w.heap.size, 1, none⟩ = some (.map none)
  rz : wr.frozen? ⟨w.heap.size, 0, none⟩ = false
  ry : wr.frozen? ⟨w.heap.size, 1, none⟩ = false
  own : wr.ownsRow (w.heap.size + 4) 131 9 v cs.length (codeCells cs)
  map : LbMap wr (w.heap.size + 1) ls
  lines : FldB wr (w.heap.size + 3) a lines
  size : w.heap.size + 4 ≤ wr.heap.size
  below : Below w.heap.size w wr
theorem Sc.hop {w wr w' : World} {a : Option Addr} {lines : List ByteArray} {v : Value} {cs : List (Int × Rl.A8)} {ls : Am.Labs} (h : Sc w wr a lines v cs ls) (hb : Below wr.heap.size wr w') : Sc w w' a lines v cs ls := by
  have hs := h.size
  exact ⟨(hb.cell (p := ⟨_, 0, none⟩) (by dsimp only; omega)).trans h.c0, (hb.cell (p := ⟨_, 1, none⟩) (by dsimp only; omega)).trans h.c1, (hb.frozen (p := ⟨_, 0, none⟩) (by dsimp only; omega)).trans h.fz,
    (hb.cell (p := ⟨_, 0, none⟩) (by dsimp only; omega)).trans h.r0, (hb.cell (p := ⟨_, 1, none⟩) (by dsimp only; omega)).trans h.r1, (hb.frozen (p := ⟨_, 0, none⟩) (by dsimp only; omega)).trans h.rz, (hb.frozen (p := ⟨_, 1, none⟩) (by dsimp only; omega)).trans h.ry,
    owns_below h.own hb, h.map.below hb, h.lines.kept hb.size (fun hlt => hb.block _ hlt), Nat.le_trans hs hb.size, h.below.trans (hb.mono h.below.size)⟩
theorem Sc.label {w wr wx w' : World} {a : Option Addr} {lines : List ByteArray} {v : Value} {cs : List (Int × Rl.A8)} {ls ls' : Am.Labs} (h : Sc w wr a lines v cs ls) (hb : Below wr.heap.size wr wx) (hg : wx.grownBy w' (some (w.heap.size + 1))) (hm : LbMap w' (w.heap.size + 1) ls') : Sc w w' a lines v cs ls' := by
  have h := h.hop hb
  have hs := h.size
  refine ⟨?_, ?_, ?_, ?_, ?_, ?_, ?_, ?_, hm, h.lines.kept hg.size (fun hlt => hg.block _ hlt (by simp)), Nat.le_trans hs hg.size, h.below.grown hg h.below.size (fun k hk => by cases hk; omega)⟩
  · exact hg.cell h.c0 (by simp)
  · exact hg.cell h.c1 (by simp)
  · exact (hg.frozen_far ⟨_, 0, none⟩ (by dsimp only; omega) (by simp)).trans h.fz
  · exact hg.cell h.r0 (by simp)
  · exact hg.cell h.r1 (by simp)
  · exact (hg.frozen_far ⟨_, 0, none⟩ (by dsimp only; omega) (by simp)).trans h.rz
  · exact (hg.frozen_far ⟨_, 1, none⟩ (by dsimp only; omega) (by simp)).trans h.ry
  · refine World.ownsRow.kept h.own hg (.inr ?_)
    intro e
    have := (World.ownsRow.lt h.own _ e).1
    omega
theorem Sc.code {w wr wx wy : World} {a : Option Addr} {lines : List ByteArray} {v : Value} {n g cap : Nat} {cs : List (Int × Rl.A8)} {ls : Am.Labs} {ln kd op xa xb xc xm wd : Int} {lab : ByteArray} (h : Sc w wr a lines v cs ls) (hb : Below wr.heap.size wr wx) (hg : wx.grownBy wy v.ownBlock)
    (ho : wy.ownsRow (w.heap.size + 4) 131 9 (.slice (some ⟨g, 0, none⟩) (n + 1) cap) (n + 1) (codeCells cs ++ l9 ln kd op xa xb xc xm wd lab)) (hn : n = cs.length) :
    Sc w (wy.setCell ⟨w.heap.size + 2, 0, none⟩ (.slice (some ⟨g, 0, none⟩) (n + 1) cap)) a lines (.slice (some ⟨g, 0, none⟩) (n + 1) cap) (cs ++ [(ln, ⟨kd, op, xa, xb, xc, xm, wd, lab⟩)]) ls := by
  have h := h.hop hb
  have hs := h.size
  have hge : ∀ k, v.ownBlock = some k → w.heap.size + 4 ≤ k := fun k e => (World.ownsRow.lt h.own k e).1
  have hne : ∀ j, j < w.heap.size + 4 → some j ≠ v.ownBlock := fun j hj e => by have := hge j e.symm; omega
  have hblk : ∀ j, j < w.heap.size + 4 → wy.heap[j]? = wx.heap[j]? := fun j hj => hg.block j (by omega) (hne j hj)
  have hset : ∀ j, j ≠ w.heap.size + 2 → (wy.setCell ⟨w.heap.size + 2, 0, none⟩ (.slice (some ⟨g, 0, none⟩) (n + 1) cap)).heap[j]? = wy.heap[j]? := fun j hj => Below.heap_setCell _ _ _ _ (by show j ≠ _; omega)
  subst hn
  refine ⟨World.cell?_setCell_same (h := hg.cell h.c0 (hne _ (by dsimp only; omega))) .., ?_, ?_, ?_, ?_, ?_, ?_, ?_, ?_, ?_, ?_, ?_⟩
  · rw [World.cell?_setCell_other (h := by simp)]
    exact hg.cell h.c1 (hne _ (by dsimp only; omega))
  · rw [World.frozen?_setCell]
    exact (hg.frozen_far ⟨_, 0, none⟩ (by dsimp only; omega) (hne _ (by dsimp only; omega))).trans h.fz
  · rw [World.cell?_setCell_other (h := by simp)]
    exact hg.cell h.r0 (hne _ (by dsimp only; omega))
  · rw [World.cell?_setCell_other (h := by simp)]
    exact hg.cell h.r1 (hne _ (by dsimp only; omega))
  · rw [World.frozen?_setCell]
    exact (hg.frozen_far ⟨_, 0, none⟩ (by dsimp only; omega) (hne _ (by dsimp only; omega))).trans h.rz
  · rw [World.frozen?_setCell]
    exact (hg.frozen_far ⟨_, 1, none⟩ (by dsimp only; omega) (hne _ (by dsimp only; omega))).trans h.ry
  · rw [codeCells_snoc, List.length_append]
    exact ownsRow_setCell_below ho (by dsimp only; omega) _
  · obtain ⟨es, ck, hh, r⟩ := h.map
    exact ⟨es, ck, by rw [hset _ (by omega), hblk _ (by omega)]; exact hh, r⟩
  · exact h.lines.kept (by have := hg.size; simpa [World.setCell] using this) (fun hlt => by rw [hset _ (by omega), hblk _ (by omega)])
  · have := hg.size
    simp only [World.setCell, Array.size_modify]
    omega
  · exact (h.below.grown hg h.below.size (fun k hk => by have := hge k hk; omega)).setCell (by dsimp only; omega) _
end Go.Proofs.YtdjapcfejmhjnaaGreatDoor
namespace Go.Proofs.YtdjapcfejmhjnaaGreatDoor
open Go.ChangeShapes Go.WideShapes Go.ChangeAt Go.RowKit Go.Deep Go.Maps
set_option linter.unusedVariables false
set_option maxRecDepth 20000

/-- The lines that give a word, each with its line. -/
def Am.codeFrom : List Rl.A8 → Nat → List (Int × Rl.A8) → List (Int × Rl.A8)
  | [], _, cs => cs
  | a :: l, k, cs => codeFrom l (k + 1) (if a.kind = 1 then cs else cs ++ [(((k + 1 : Nat) : Int), a)])
theorem impl_rl8 (s : ByteArray) (w : World) (hs : s.size ≤ 1048576) (hM : TabM w) (hT : Tab w) (hTN : TabN w) :
    Calls Tryz.prog 70 #[.string s] w fun e w' => ∃ kd op a b c m wd lab, Hid (Rl.line s = ⟨kd, op, a, b, c, m, wd, lab⟩) ∧ e = .returned (.agg #[.int .i64 kd, .int .i64 op, .int .i64 a, .int .i64 b, .int .i64 c, .int .i64 m, .int .u32 wd, .string lab]) ∧ Below w.heap.size w w' := by
  refine (impl_rl s w hs hM hT hTN).mono ?_
  rintro e w' ⟨rfl, hb⟩
  exact ⟨_, _, _, _, _, _, _, _, rfl, rfl, hb⟩
/-- What scan returns. -/
def ScanPost (w : World) (C : List (Int × Rl.A8)) (S : Int × Int × Am.Labs) (e : Ending) (w' : World) : Prop :=
  ∃ v err, e = .returned (.tuple #[.agg #[v, .map (some (w.heap.size + 1))], err]) ∧ (S.1 ≠ 0 → err = .iface 62 (.agg #[.int .i64 S.2.1, .int .i64 S.1])) ∧ (S.1 = 0 → err = .nilIface ∧ Am.Good S.2.2 ∧ LbMap w' (w.heap.size + 1) S.2.2 ∧ w'.ownsRow (w.heap.size + 4) 131 9 v C.length (codeCells C)) ∧ Below w.heap.size w w' ∧ ∃ a n cap, v = .slice a n cap
theorem Sc.start {w w1 : World} {a : Option Addr} {lines : List ByteArray}
    (hb : Below (w.heap.size + 3) (((w.alloc (.cells #[.slice none 0 0, .map none] 90)).alloc (.map #[] 0)).alloc (.cells #[.slice none 0 0, .map (some (w.heap.size + 1))] 90)) w1) (hf : FldB w1 (w.heap.size + 3) a lines) (hz : w1.heap.size = w.heap.size + 4) :
    Sc w w1 a lines (.slice none 0 0) [] [] := by
  have b0 : (((w.alloc (.cells #[.slice none 0 0, .map none] 90)).alloc (.map #[] 0)).alloc (.cells #[.slice none 0 0, .map (some (w.heap.size + 1))] 90)).heap[w.heap.size]? = some (.cells #[.slice none 0 0, .map none] 90) := by
    rw [Below.heap_alloc _ _ _ (by simp; omega), Below.heap_alloc _ _ _ (by simp)]
    exact heap_alloc_new w _
  have b1 : (((w.alloc (.cells #[.slice none 0 0, .map none] 90)).alloc (.map #[] 0)).alloc (.cells #[.slice none 0 0, .map (some (w.heap.size + 1))] 90)).heap[w.heap.size + 1]? = some (.map #[] 0) := by
    rw [Below.heap_alloc _ _ _ (by simp)]
    have := heap_alloc_new (w.alloc (.cells #[.slice none 0 0, .map none] 90)) (.map #[] 0)
    simpa using this
  have b2 : (((w.alloc (.cells #[.slice none 0 0, .map none] 90)).alloc (.map #[] 0)).alloc (.cells #[.slice none 0 0, .map (some (w.heap.size + 1))] 90)).heap[w.heap.size + 2]? = some (.cells #[.slice none 0 0, .map (some (w.heap.size + 1))] 90) := by
    have := heap_alloc_new ((w.alloc (.cells #[.slice none 0 0, .map none] 90)).alloc (.map #[] 0)) (.cells #[.slice none 0 0, .map (some (w.heap.size + 1))] 90)
    simpa using this
  have c0 := (hb.block w.heap.size (by omega)).trans b0
  have c1 := (hb.block (w.heap.size + 1) (by omega)).trans b1
  have c2 := (hb.block (w.heap.size + 2) (by omega)).trans b2
  refine ⟨by simp [World.cell?, c2], by simp [World.cell?, c2], by simp [World.frozen?, c2], by simp [World.cell?, c0], by simp [World.cell?, c0], by simp [World.frozen?, c0], by simp [World.frozen?, c0], World.ownsRow_nil _ _ _ _, ?_, hf, by omega, ?_⟩
  · exact ⟨#[], 0, c1, ⟨by simp, MapKept.stamped_empty 0, by simp⟩, Nat.le_refl _, rfl⟩
  · refine Below.trans ?_ (hb.mono (by omega))
    exact ((((Below.refl _ _).alloc (Nat.le_refl _) _).alloc (by simp) _).alloc (by simp; omega) _)
end Go.Proofs.YtdjapcfejmhjnaaGreatDoor
namespace Go.Proofs.YtdjapcfejmhjnaaGreatDoor
set_option linter.unusedVariables false
set_option maxRecDepth 20000

namespace Rl
/-- What is so of whatever was read. -/
structure Fit (M : Nat) (x : A8) : Prop where
  lab : x.lab.size ≤ M
  instr : x.kind = 3 → instrOk x.op x.a x.b x.c x.m = true
  kind : x.kind = 0 ∨ x.kind = 1 ∨ x.kind = 2 ∨ x.kind = 3 ∨ x.kind = 4
theorem Fit.none (M : Nat) : Fit M no := ⟨Nat.zero_le _, fun h => absurd h (by decide), .inl rfl⟩
theorem ans_range (l : List Int) (most n : Int) (h : Dc.ans l most = some n) : -most ≤ n ∧ n ≤ most := by
  unfold Dc.ans at h
  split at h
  · rename_i hm
    unfold Dc.num at h
    split at h
    · simp only [Option.bind_eq_some_iff] at h
      obtain ⟨z, hz, h⟩ := h
      have := Dc.dec_bd most hm.1 _ _ hz
      split at h
      · cases h
      · cases h
        omega
    · have := Dc.dec_bd most hm.1 _ _ h
      omega
  · cases h
theorem take1_fld {q : Bool} {r r' : List ByteArray} {n : Int} (h : take1 q r = some (n, r')) : (q = false → n = 0) ∧ 0 ≤ n ∧ n ≤ 15 ∧ (∀ x ∈ r', x ∈ r) := by
  cases q with
  | false =>
    simp only [take1, Option.some.injEq, Prod.mk.injEq] at h
    obtain ⟨rfl, rfl⟩ := h
    exact ⟨fun _ => rfl, by omega, by omega, fun x hx => hx⟩
  | true =>
    cases r with
    | nil => simp [take1] at h
    | cons x r =>
      simp only [take1, Option.map_eq_some_iff, Prod.mk.injEq] at h
      obtain ⟨m, hm, rfl, rfl⟩ := h
      unfold reg at hm
      split at hm
      · simp only [Option.bind_eq_some_iff] at hm
        obtain ⟨z, hz, hm⟩ := hm
        split at hm
        · cases hm
        · cases hm
          have := ans_range _ _ _ hz
          exact ⟨fun h => (by cases h), by omega, by omega, fun y hy => by simp [hy]⟩
      · cases hm
theorem fld_of (f bit x lo hi : Int) (q : Bool) (hq : (f / bit % 2 == 1) = q) (h0 : q = false → x = 0) (h1 : lo ≤ x ∧ x ≤ hi) : fld f bit x lo hi = true := by
  unfold fld
  split
  · rename_i h
    have e : f / bit % 2 = 0 := by simpa using h
    have : q = false := by rw [← hq, e]; rfl
    rw [h0 this]; rfl
  · simp [h1.1, h1.2]
theorem fin_fit (M k : Nat) (hk : k < 33) (a b c : Int) (r : List ByteArray) (qm : Bool) (hqm : (form k / 8 % 2 == 1) = qm)
    (ha : fld (form k) 1 a 0 15 = true) (hb : fld (form k) 2 b 0 15 = true) (hc : fld (form k) 4 c 0 15 = true) (hr : ∀ x ∈ r, x.size ≤ M) : Fit M (fin qm k a b c r) := by
  have hi : ∀ m : Int, (qm = false → m = 0) → -8192 ≤ m → m ≤ 8191 → instrOk k a b c m = true := by
    intro m h0 h1 h2
    unfold instrOk
    have e : YtdjapcfejmhjnaaGreatDoor.form (k : Int) = form k := by simp [YtdjapcfejmhjnaaGreatDoor.form, form]
    rw [e, ha, hb, hc, fld_of _ 8 m (-8192) 8191 qm hqm h0 ⟨h1, h2⟩]
    simp
    omega
  cases qm with
  | false =>
    cases r with
    | nil => exact ⟨Nat.zero_le _, fun _ => hi 0 (fun _ => rfl) (by omega) (by omega), by simp [fin]⟩
    | cons x r => exact Fit.none M
  | true =>
    match r, hr with
    | [], _ => exact Fit.none M
    | [x], hr =>
      show Fit M (immOf k a b c x)
      unfold immOf
      split
      · exact ⟨hr x (by simp), fun h => absurd h (by dsimp only; omega), by simp⟩
      · split
        · rename_i n hn
          split
          · have := ans_range _ _ _ hn
            exact ⟨Nat.zero_le _, fun _ => hi n (fun h => by cases h) (by omega) (by omega), by simp⟩
          · exact Fit.none M
        · exact Fit.none M
    | x :: y :: r, _ => exact Fit.none M
theorem rdI_fit (M k : Nat) (hk : k < 33) (r : List ByteArray) (hr : ∀ x ∈ r, x.size ≤ M) : Fit M (rdI k r) := by
  unfold rdI k0
  split
  · exact Fit.none M
  · rename_i a r1 h1
    have t1 := take1_fld h1
    unfold k1
    split
    · exact Fit.none M
    · rename_i b r2 h2
      have t2 := take1_fld h2
      unfold k2
      split
      · exact Fit.none M
      · rename_i c r3 h3
        have t3 := take1_fld h3
        refine fin_fit M k hk a b c r3 _ rfl (fld_of _ 1 a 0 15 _ (by simp) t1.1 ⟨t1.2.1, t1.2.2.1⟩) (fld_of _ 2 b 0 15 _ rfl t2.1 ⟨t2.2.1, t2.2.2.1⟩) (fld_of _ 4 c 0 15 _ rfl t3.1 ⟨t3.2.1, t3.2.2.1⟩) (fun x hx => hr x (t1.2.2.2 x (t2.2.2.2 x (t3.2.2.2 x hx))))
theorem line_fit (s : ByteArray) : Fit s.size (line s) := by
  unfold line
  split
  · exact Fit.none _
  · split
    · refine ⟨?_, fun h => absurd h (by dsimp only; omega), by simp⟩
      show (ahead s).size ≤ _
      unfold ahead
      rw [ByteArray.size_extract]
      omega
    · split
      · exact Fit.none _
      · rename_i w r hw
        have hsz : ∀ x ∈ r, x.size ≤ s.size := fun x hx => Sp.texts_short 32 s x (by rw [hw]; simp [hx])
        unfold rd
        split
        · unfold rdW
          split
          · split
            · split
              · exact Fit.none _
              · exact ⟨Nat.zero_le _, fun h => absurd h (by dsimp only; omega), by simp⟩
            · exact Fit.none _
          · exact Fit.none _
        · split
          · exact Fit.none _
          · rename_i k hk
            unfold opN at hk
            have := List.mem_of_find?_eq_some hk
            exact rdI_fit _ k (by simpa using this) r hsz
end Rl
end Go.Proofs.YtdjapcfejmhjnaaGreatDoor
namespace Go.Proofs.YtdjapcfejmhjnaaGreatDoor
open Go.ChangeShapes Go.WideShapes Go.ChangeAt Go.RowKit Go.Deep Go.Maps
set_option linter.unusedVariables false
set_option maxRecDepth 20000

theorem own_slice {w : World} {base : Nat} {e : TypeId} {size : Nat} {v : Value} {n : Nat} {xs : List Value} (h : w.ownsRow base e size v n xs) : ∃ a cap, v = .slice a n cap := by
  rcases h.2 with ⟨h0, h1⟩ | ⟨g, cap, cur, rfl, r⟩
  · exact ⟨none, 0, by rw [h0, h1]⟩
  · exact ⟨_, _, rfl⟩
/-- A return of scan: its source is laid into the result's variable. -/
theorem Sc.give {w wr : World} {a : Option Addr} {lines : List ByteArray} {v : Value} {cs : List (Int × Rl.A8)} {ls : Am.Labs} (h : Sc w wr a lines v cs ls) {C : List (Int × Rl.A8)} {S : Int × Int × Am.Labs} {err : Value}
    (h1 : S.1 ≠ 0 → err = .iface 62 (.agg #[.int .i64 S.2.1, .int .i64 S.1])) (h2 : S.1 = 0 → err = .nilIface ∧ Am.Good S.2.2 ∧ ls = S.2.2 ∧ cs = C) :
    ScanPost w C S (.returned (.tuple #[.agg #[v, .map (some (w.heap.size + 1))], err])) ((wr.setCell ⟨w.heap.size, 0, none⟩ v).setCell ⟨w.heap.size, 1, none⟩ (.map (some (w.heap.size + 1)))) := by
  refine ⟨v, err, rfl, h1, fun h0 => ?_, (h.below.setCell (Nat.le_refl _) _).setCell (Nat.le_refl _) _, ?_⟩
  rotate_left
  · obtain ⟨a, cap, e⟩ := own_slice h.own
    exact ⟨a, _, cap, e⟩
  obtain ⟨e1, e2, e3, e4⟩ := h2 h0
  subst e3 e4
  refine ⟨e1, e2, ?_, ?_⟩
  · obtain ⟨es, ck, hh, r⟩ := h.map
    refine ⟨es, ck, ?_, r⟩
    rw [Below.heap_setCell _ _ _ _ (by dsimp only; omega), Below.heap_setCell _ _ _ _ (by dsimp only; omega)]
    exact hh
  · exact ownsRow_setCell_below (ownsRow_setCell_below h.own (by dsimp only; omega) _) (by dsimp only; omega) _
def Nine (w : World) (p : Nat) (ln kd op a b c m wd : Int) (lab : ByteArray) : Prop := w.cell? ⟨p, 0, none⟩ = some (.int .i64 ln) ∧ w.cell? ⟨p, 1, none⟩ = some (.int .i64 kd) ∧ w.cell? ⟨p, 2, none⟩ = some (.int .i64 op) ∧ w.cell? ⟨p, 3, none⟩ = some (.int .i64 a) ∧ w.cell? ⟨p, 4, none⟩ = some (.int .i64 b) ∧ w.cell? ⟨p, 5, none⟩ = some (.int .i64 c) ∧ w.cell? ⟨p, 6, none⟩ = some (.int .i64 m) ∧ w.cell? ⟨p, 7, none⟩ = some (.int .u32 wd) ∧ w.cell? ⟨p, 8, none⟩ = some (.string lab)
theorem Nine.new (w : World) (ln kd op a b c m wd : Int) (lab : ByteArray) : Nine (w.alloc (b9 ln kd op a b c m wd lab)) w.heap.size ln kd op a b c m wd lab := by
  refine ⟨?_, ?_, ?_, ?_, ?_, ?_, ?_, ?_, ?_⟩ <;> simp
theorem Nine.below {w w' : World} {p : Nat} {ln kd op a b c m wd : Int} {lab : ByteArray} (h : Nine w p ln kd op a b c m wd lab) (hb : Below w.heap.size w w') : Nine w' p ln kd op a b c m wd lab := by
  have hlt : p < w.heap.size := World.block_lt_of_cell? w _ h.1
  obtain ⟨h0, h1, h2, h3, h4, h5, h6, h7, h8⟩ := h
  exact ⟨(hb.cell (p := ⟨p, 0, none⟩) hlt).trans h0, (hb.cell (p := ⟨p, 1, none⟩) hlt).trans h1, (hb.cell (p := ⟨p, 2, none⟩) hlt).trans h2, (hb.cell (p := ⟨p, 3, none⟩) hlt).trans h3, (hb.cell (p := ⟨p, 4, none⟩) hlt).trans h4, (hb.cell (p := ⟨p, 5, none⟩) hlt).trans h5, (hb.cell (p := ⟨p, 6, none⟩) hlt).trans h6, (hb.cell (p := ⟨p, 7, none⟩) hlt).trans h7, (hb.cell (p := ⟨p, 8, none⟩) hlt).trans h8⟩
set_option maxHeartbeats 4000000 in
theorem impl_scan (s : ByteArray) (lines : List ByteArray) (L : Nat) (S : Int × Int × Am.Labs) (C : List (Int × Rl.A8)) (w : World) (hs : s.size ≤ 1048576) (hM : TabM w) (hT : Tab w) (hTN : TabN w) (HW : Hid (Ln.pieces s = lines)) (HL : Hid (L = lines.length)) (hL : L ≤ 1048576) (HX : Hid (∀ x ∈ lines, x.size ≤ 1048576)) (HS : Hid (Am.scan (lines.map Rl.line) 0 0 [] = S)) (HCC : Hid (Am.codeFrom (lines.map Rl.line) 0 [] = C)) :
    Calls Tryz.prog 46 #[.string s] w (ScanPost w C S) := by
  have hmm := @run_makeMap Tryz.prog
  have HT : Hid _ := And.intro hM (And.intro hT hTN)
  clear hM hT hTN
  have hb0 : Below w.heap.size w (((w.alloc (.cells #[.slice none 0 0, .map none] 90)).alloc (.map #[] 0)).alloc (.cells #[.slice none 0 0, .map (some (w.heap.size + 1))] 90)) := (((Below.refl _ _).alloc (Nat.le_refl _) _).alloc (by simp) _).alloc (by simp; omega) _
  have HB0 : Hid _ := hb0
  clear hb0
  go_enter Tryz.func46, Tryz.ntmps46
  go_wp2
  go_step3
  go_wp2
  go_step3
  go_wp2_with fail
  refine (impl_lines s lines L _ hs (TabM.below HT.out.1 HB0.out) HW HL).mono ?_
  rintro e w1 ⟨rfl, hb, hf, hz⟩
  have hz0 : (((w.alloc (.cells #[.slice none 0 0, .map none] 90)).alloc (.map #[] 0)).alloc (.cells #[.slice none 0 0, .map (some (w.heap.size + 1))] 90)).heap.size = w.heap.size + 3 := by simp
  rw [hz0] at hb hf hz ⊢
  have HST : Hid _ := Sc.start hb hf hz
  clear hb hf hz hz0
  go_wp2
  go_loopw [5, 15] (fun er i wr => ∃ (k : Nat) (v : Value) (cs : List (Int × Rl.A8)) (ls : Am.Labs), k ≤ L ∧ er = .nilIface ∧ i = .int .i64 k ∧ Hid (Am.Good ls ∧ ls.length ≤ k ∧ cs.length ≤ 256 ∧ Sc w wr (some ⟨w.heap.size + 3, 0, none⟩) lines v cs ls ∧ Am.scan ((lines.map Rl.line).drop k) k cs.length ls = S ∧ Am.codeFrom ((lines.map Rl.line).drop k) k cs = C)) (fun _ i _ => L - (intOf i).toNat)
  case atStart => exact ⟨0, _, [], [], by omega, rfl, rfl, .nil, by simp, by simp, HST.out, HS.out, HCC.out⟩
  case round =>
    obtain ⟨k, v, cs, ls, hk, rfl, rfl, HR⟩ := hrel
    obtain ⟨ac, cc, hv⟩ := own_slice HR.out.2.2.2.1.own
    generalize hn : cs.length = nc at hv
    have HN : Hid (nc = cs.length) := hn.symm
    have hnc : nc ≤ 256 := by rw [HN.out]; exact HR.out.2.2.1
    clear hn
    subst hv
    by_cases hlt : k < L
    · have hlt' : (k : Int) < (L : Int) := by omega
      have hkl : k < lines.length := by rw [← HL.out]; exact hlt
      obtain ⟨hbl, off, ha, hc⟩ := HR.out.2.2.2.1.lines (by omega)
      cases ha
      have hcell := hc k lines[k] (List.getElem?_eq_getElem hkl)
      rw [Nat.zero_add] at hcell
      have hxs := HX.out _ (List.getElem_mem hkl)
      have HD : Hid (Am.scan (Rl.line lines[k] :: (lines.map Rl.line).drop (k + 1)) k cs.length ls = S ∧ Am.codeFrom (Rl.line lines[k] :: (lines.map Rl.line).drop (k + 1)) k cs = C) := by
        have h := HR.out.2.2.2.2
        rw [List.drop_eq_getElem_cons (by rw [List.length_map]; exact hkl), List.getElem_map] at h
        exact h
      clear hc
      generalize lines[k] = x at hcell hxs HD
      have HBW : Hid _ := HR.out.2.2.2.1.below
      go_wp2_with fail
      refine (impl_rl8 x _ hxs (TabM.below HT.out.1 HBW.out) (Tab.below HT.out.2.1 HBW.out) (TabN.below HT.out.2.2 HBW.out)).mono ?_
      rintro e w2 ⟨kd, op, xa, xb, xc, xm, wd, lab, HA, rfl, hb2⟩
      have HFT : Hid _ := Rl.line_fit x
      rw [HA.out] at HD HFT
      have HT3 : Hid _ := (HR.out.2.2.2.1.hop hb2).hop ((Below.refl _ _).alloc (Nat.le_refl _) (b9 ((k : Int) + 1) kd op xa xb xc xm wd lab))
      clear hb2
      have HN3 : Hid _ := Nine.new w2 ((k : Int) + 1) kd op xa xb xc xm wd lab
      have hlab : lab.size ≤ 1048576 := Nat.le_trans HFT.out.lab hxs
      go_wp2
      by_cases h0 : kd = 0
      · have h0' : (kd == 0) = true := by rw [h0]; rfl
        have HQ : Hid ((2, ((k + 1 : Nat) : Int), ls) = S) := by
          have h := HD.out.1
          rw [Am.scan, if_pos h0] at h
          exact h
        clear h0
        refine wp_loop_rounds 4 ?_
        rw [rounds_succ]
        go_wp2_with fail
        refine (wrong_line (w.heap.size + 2) kd op xa xb xc xm wd lab _).mono ?_
        rintro e w4 ⟨rfl, hb4⟩
        have HT4 : Hid _ := HT3.out.hop hb4
        have HN4 : Hid _ := Nine.below HN3.out hb4
        clear hb4
        obtain ⟨d0, d1, d2, d3, d4, d5, d6, d7, d8⟩ := HN4.out
        rw [h0']
        have hr0 := HT4.out.r0
        have hr1 := HT4.out.r1
        have hrz := HT4.out.rz
        have hry := HT4.out.ry
        have hs0 := HT4.out.c0
        have hs1 := HT4.out.c1
        have z0 : (w4.setCell ⟨w.heap.size, 0, none⟩ (.slice ac nc cc)).cell? ⟨w.heap.size, 0, none⟩ = some (.slice ac nc cc) := World.cell?_setCell_same (h := hr0) ..
        have z1 : ((w4.setCell ⟨w.heap.size, 0, none⟩ (.slice ac nc cc)).setCell ⟨w.heap.size, 1, none⟩ (.map (some (w.heap.size + 1)))).cell? ⟨w.heap.size, 1, none⟩ = some (.map (some (w.heap.size + 1))) := World.cell?_setCell_same (h := by rw [World.cell?_setCell_other (h := by simp)]; exact hr1) ..
        go_wp2
        try rw [Exit.noGoto_ret]
        refine bodyPost_ret (v := .tuple #[.agg #[.slice ac nc cc, .map (some (w.heap.size + 1))], .iface 62 (.agg #[.int .i64 ((k : Int) + 1), .int .i64 2])]) ?_ rfl (HT4.out.give (by rw [← HQ.out]; intro _; rfl) (by rw [← HQ.out]; intro h; cases h))
        simp [results, Tryz.results46, go_sem, z0, z1]
      · have h0' : (kd == 0) = false := by simpa using h0
        by_cases h1 : kd = 1
        · have h1' : (kd == 1) = true := by rw [h1]; rfl
          have h1n : (kd != 1) = false := by rw [h1]; rfl
          generalize hfd : Am.find ls lab = fd
          by_cases h3 : 0 ≤ fd
          · have hq : (kd == 1 && decide (0 ≤ Am.find ls lab)) = true := by rw [h1', hfd, decide_eq_true h3]; rfl
            have HQ : Hid ((3, ((k + 1 : Nat) : Int), ls) = S) := by
              have h := HD.out.1
              rw [Am.scan, if_neg h0, if_pos h1] at h
              simp only [hfd] at h
              rw [if_pos h3] at h
              exact h
            clear h0 h1 hfd
            refine wp_loop_rounds 4 ?_
            rw [rounds_succ]
            go_wp2_with fail
            refine (wrong_line (w.heap.size + 2) kd op xa xb xc xm wd lab _).mono ?_
            rintro e w4 ⟨rfl, hb4⟩
            have HT4 : Hid _ := HT3.out.hop hb4
            have HN4 : Hid _ := Nine.below HN3.out hb4
            clear hb4
            obtain ⟨d0, d1, d2, d3, d4, d5, d6, d7, d8⟩ := HN4.out
            rw [h0']
            go_wp2
            rw [rounds_succ]
            go_wp2_with fail
            refine (wrong_twice (w.heap.size + 2) (w.heap.size + 1) ls kd op xa xb xc xm wd lab _ HT4.out.c1 HT4.out.map HR.out.1 hlab).mono ?_
            rintro e w5 ⟨rfl, hb4⟩
            have HT5 : Hid _ := HT4.out.hop hb4
            have HN5 : Hid _ := Nine.below HN4.out hb4
            clear hb4
            clear d0 d1 d2 d3 d4 d5 d6 d7 d8
            obtain ⟨d0, d1, d2, d3, d4, d5, d6, d7, d8⟩ := HN5.out
            rw [hq]
            have hr0 := HT5.out.r0
            have hr1 := HT5.out.r1
            have hrz := HT5.out.rz
            have hry := HT5.out.ry
            have hs0 := HT5.out.c0
            have hs1 := HT5.out.c1
            have z0 : (w5.setCell ⟨w.heap.size, 0, none⟩ (.slice ac nc cc)).cell? ⟨w.heap.size, 0, none⟩ = some (.slice ac nc cc) := World.cell?_setCell_same (h := hr0) ..
            have z1 : ((w5.setCell ⟨w.heap.size, 0, none⟩ (.slice ac nc cc)).setCell ⟨w.heap.size, 1, none⟩ (.map (some (w.heap.size + 1)))).cell? ⟨w.heap.size, 1, none⟩ = some (.map (some (w.heap.size + 1))) := World.cell?_setCell_same (h := by rw [World.cell?_setCell_other (h := by simp)]; exact hr1) ..
            go_wp2
            try rw [Exit.noGoto_ret]
            refine bodyPost_ret (v := .tuple #[.agg #[.slice ac nc cc, .map (some (w.heap.size + 1))], .iface 62 (.agg #[.int .i64 ((k : Int) + 1), .int .i64 3])]) ?_ rfl (HT5.out.give (by rw [← HQ.out]; intro _; rfl) (by rw [← HQ.out]; intro h; cases h))
            simp [results, Tryz.results46, go_sem, z0, z1]
          · have hq : (kd == 1 && decide (0 ≤ Am.find ls lab)) = false := by rw [h1', hfd, decide_eq_false h3]; rfl
            have HQ : Hid (Am.scan ((lines.map Rl.line).drop (k + 1)) (k + 1) cs.length (ls ++ [(lab, (cs.length : Int))]) = S ∧ Am.codeFrom ((lines.map Rl.line).drop (k + 1)) (k + 1) cs = C) := by
              have h := HD.out
              rw [Am.scan, if_neg h0, if_pos h1, Am.codeFrom] at h
              simp only [hfd, h1] at h
              rw [if_neg h3] at h
              exact ⟨h.1, by simpa using h.2⟩
            have HFD : Hid _ := hfd
            have hll : ls.length ≤ 1048576 := by have := HR.out.2.1; omega
            clear h0 hfd
            subst h1
            refine wp_loop_rounds 4 ?_
            rw [rounds_succ]
            go_wp2_with fail
            refine (wrong_line (w.heap.size + 2) 1 op xa xb xc xm wd lab _).mono ?_
            rintro e w4 ⟨rfl, hb4⟩
            have HT4 : Hid _ := HT3.out.hop hb4
            have HN4 : Hid _ := Nine.below HN3.out hb4
            clear hb4
            obtain ⟨d0, d1, d2, d3, d4, d5, d6, d7, d8⟩ := HN4.out
            rw [h0']
            go_wp2
            rw [rounds_succ]
            go_wp2_with fail
            refine (wrong_twice (w.heap.size + 2) (w.heap.size + 1) ls 1 op xa xb xc xm wd lab _ HT4.out.c1 HT4.out.map HR.out.1 hlab).mono ?_
            rintro e w5 ⟨rfl, hb4⟩
            have HT5 : Hid _ := HT4.out.hop hb4
            have HN5 : Hid _ := Nine.below HN4.out hb4
            clear hb4
            clear d0 d1 d2 d3 d4 d5 d6 d7 d8
            obtain ⟨d0, d1, d2, d3, d4, d5, d6, d7, d8⟩ := HN5.out
            rw [hq]
            go_wp2
            rw [rounds_succ]
            go_wp2_with fail
            refine (wrong_many (w.heap.size + 2) ac nc cc 1 op xa xb xc xm wd lab _ HT5.out.c0).mono ?_
            rintro e w6 ⟨rfl, hb4⟩
            have HT6 : Hid _ := HT5.out.hop hb4
            have HN6 : Hid _ := Nine.below HN5.out hb4
            clear hb4
            clear d0 d1 d2 d3 d4 d5 d6 d7 d8
            obtain ⟨d0, d1, d2, d3, d4, d5, d6, d7, d8⟩ := HN6.out
            rw [h1n, Bool.false_and]
            go_wp2
            rw [rounds_succ]
            go_wp2_with fail
            refine (take_label (w.heap.size + 2) (w.heap.size + 1) ls ac nc cc ((k : Int) + 1) op xa xb xc xm wd lab _ HT6.out.c0 HT6.out.c1 HT6.out.map hlab hll hnc).mono ?_
            rintro e w7 ⟨rfl, hm7, wx, hbx, hgx⟩
            have HT7 : Hid _ := HT6.out.label hbx hgx hm7
            clear hm7 hbx hgx
            go_wp2
            go_roundw
            case rel =>
              refine ⟨k + 1, _, cs, ls ++ [(lab, (nc : Int))], by omega, rfl, by go_num, .snoc HR.out.1 (by rw [HFD.out]; omega) hlab (by omega) (by omega), ?_, HR.out.2.2.1, HT7.out, ?_, HQ.out.2⟩
              · have := HR.out.2.1; simp; omega
              · rw [HN.out]; exact HQ.out.1
            case measure => simp [intOf]; omega
        · have h1' : (kd == 1) = false := by simpa using h1
          have h1n : (kd != 1) = true := by simpa using h1
          have hq : (kd == 1 && decide (0 ≤ Am.find ls lab)) = false := by rw [h1']; rfl
          by_cases h4 : 256 ≤ nc
          · have hq4 : (kd != 1 && (nc : Int) == 256) = true := by rw [h1n, show nc = 256 by omega]; rfl
            have HQ : Hid ((4, ((k + 1 : Nat) : Int), ls) = S) := by
              have h := HD.out.1
              rw [Am.scan, if_neg h0, if_neg h1, if_pos (by rw [← HN.out]; exact h4)] at h
              exact h
            clear h0 h1
            refine wp_loop_rounds 4 ?_
            rw [rounds_succ]
            go_wp2_with fail
            refine (wrong_line (w.heap.size + 2) kd op xa xb xc xm wd lab _).mono ?_
            rintro e w4 ⟨rfl, hb4⟩
            have HT4 : Hid _ := HT3.out.hop hb4
            have HN4 : Hid _ := Nine.below HN3.out hb4
            clear hb4
            obtain ⟨d0, d1, d2, d3, d4, d5, d6, d7, d8⟩ := HN4.out
            rw [h0']
            go_wp2
            rw [rounds_succ]
            go_wp2_with fail
            refine (wrong_twice (w.heap.size + 2) (w.heap.size + 1) ls kd op xa xb xc xm wd lab _ HT4.out.c1 HT4.out.map HR.out.1 hlab).mono ?_
            rintro e w5 ⟨rfl, hb4⟩
            have HT5 : Hid _ := HT4.out.hop hb4
            have HN5 : Hid _ := Nine.below HN4.out hb4
            clear hb4
            clear d0 d1 d2 d3 d4 d5 d6 d7 d8
            obtain ⟨d0, d1, d2, d3, d4, d5, d6, d7, d8⟩ := HN5.out
            rw [hq]
            go_wp2
            rw [rounds_succ]
            go_wp2_with fail
            refine (wrong_many (w.heap.size + 2) ac nc cc kd op xa xb xc xm wd lab _ HT5.out.c0).mono ?_
            rintro e w6 ⟨rfl, hb4⟩
            have HT6 : Hid _ := HT5.out.hop hb4
            have HN6 : Hid _ := Nine.below HN5.out hb4
            clear hb4
            clear d0 d1 d2 d3 d4 d5 d6 d7 d8
            obtain ⟨d0, d1, d2, d3, d4, d5, d6, d7, d8⟩ := HN6.out
            rw [hq4]
            have hr0 := HT6.out.r0
            have hr1 := HT6.out.r1
            have hrz := HT6.out.rz
            have hry := HT6.out.ry
            have hs0 := HT6.out.c0
            have hs1 := HT6.out.c1
            have z0 := World.cell?_setCell_same (v := .slice ac nc cc) (h := hr0) ..
            have z1 := World.cell?_setCell_same (v := .map (some (w.heap.size + 1))) (h := (World.cell?_setCell_other (v := .slice ac nc cc) (a := ⟨w.heap.size, 0, none⟩) (b := ⟨w.heap.size, 1, none⟩) (h := by simp) ..).trans hr1) ..
            go_wp2
            try rw [Exit.noGoto_ret]
            refine bodyPost_ret (v := .tuple #[.agg #[.slice ac nc cc, .map (some (w.heap.size + 1))], .iface 62 (.agg #[.int .i64 ((k : Int) + 1), .int .i64 4])]) ?_ rfl (HT6.out.give (by rw [← HQ.out]; intro _; rfl) (by rw [← HQ.out]; intro h; cases h))
            simp [results, Tryz.results46, go_sem, z0, z1]
          · have hq4 : (kd != 1 && (nc : Int) == 256) = false := by
              rw [h1n, Bool.true_and, beq_eq_false_iff_ne]
              omega
            have HQ : Hid (Am.scan ((lines.map Rl.line).drop (k + 1)) (k + 1) (cs.length + 1) ls = S ∧ Am.codeFrom ((lines.map Rl.line).drop (k + 1)) (k + 1) (cs ++ [((k : Int) + 1, ⟨kd, op, xa, xb, xc, xm, wd, lab⟩)]) = C) := by
              have h := HD.out
              rw [Am.scan, if_neg h0, if_neg h1, if_neg (by rw [← HN.out]; exact h4), Am.codeFrom, if_neg h1] at h
              exact h
            clear h0 h1
            refine wp_loop_rounds 4 ?_
            rw [rounds_succ]
            go_wp2_with fail
            refine (wrong_line (w.heap.size + 2) kd op xa xb xc xm wd lab _).mono ?_
            rintro e w4 ⟨rfl, hb4⟩
            have HT4 : Hid _ := HT3.out.hop hb4
            have HN4 : Hid _ := Nine.below HN3.out hb4
            clear hb4
            obtain ⟨d0, d1, d2, d3, d4, d5, d6, d7, d8⟩ := HN4.out
            rw [h0']
            go_wp2
            rw [rounds_succ]
            go_wp2_with fail
            refine (wrong_twice (w.heap.size + 2) (w.heap.size + 1) ls kd op xa xb xc xm wd lab _ HT4.out.c1 HT4.out.map HR.out.1 hlab).mono ?_
            rintro e w5 ⟨rfl, hb4⟩
            have HT5 : Hid _ := HT4.out.hop hb4
            have HN5 : Hid _ := Nine.below HN4.out hb4
            clear hb4
            clear d0 d1 d2 d3 d4 d5 d6 d7 d8
            obtain ⟨d0, d1, d2, d3, d4, d5, d6, d7, d8⟩ := HN5.out
            rw [hq]
            go_wp2
            rw [rounds_succ]
            go_wp2_with fail
            refine (wrong_many (w.heap.size + 2) ac nc cc kd op xa xb xc xm wd lab _ HT5.out.c0).mono ?_
            rintro e w6 ⟨rfl, hb4⟩
            have HT6 : Hid _ := HT5.out.hop hb4
            have HN6 : Hid _ := Nine.below HN5.out hb4
            clear hb4
            clear d0 d1 d2 d3 d4 d5 d6 d7 d8
            obtain ⟨d0, d1, d2, d3, d4, d5, d6, d7, d8⟩ := HN6.out
            rw [hq4]
            go_wp2
            rw [rounds_succ]
            have ho := HT6.out.own
            rw [← HN.out] at ho
            go_wp2_with fail
            refine (take_code (w.heap.size + 4) (w.heap.size + 2) (.slice ac nc cc) nc (codeCells cs) ((k : Int) + 1) kd op xa xb xc xm wd lab _ HT6.out.c0 HT6.out.fz ho (fun e => by have := (World.ownsRow.lt ho _ e).1; omega) HT6.out.size h1' (by omega)).mono ?_
            rintro e w7 ⟨rfl, g, cap, wx, wy, hbx, hgx, hat, ho7, rfl⟩
            have HT7 : Hid _ := HT6.out.code hbx hgx ho7 HN.out
            clear ho hbx hgx hat ho7
            go_wp2
            go_roundw
            case rel =>
              refine ⟨k + 1, _, _, ls, by omega, rfl, by go_num, HR.out.1, by have := HR.out.2.1; omega, ?_, HT7.out, ?_, HQ.out.2⟩
              · rw [List.length_append, ← HN.out]; simp; omega
              · rw [List.length_append]; exact HQ.out.1
            case measure => simp [intOf]; omega
    · obtain rfl : k = L := by omega
      have hlt' : ¬ (k : Int) < (k : Int) := by omega
      have HQ : Hid (((0 : Int), (0 : Int), ls) = S ∧ cs = C) := by
        have h := HR.out.2.2.2.2
        rw [List.drop_of_length_le (by rw [List.length_map, ← HL.out]; exact Nat.le_refl _)] at h
        exact h
      have HT9 : Hid _ := HR.out.2.2.2.1
      have hr0 := HT9.out.r0
      have hr1 := HT9.out.r1
      have hrz := HT9.out.rz
      have hry := HT9.out.ry
      have hs0 := HT9.out.c0
      have hs1 := HT9.out.c1
      have z0 := World.cell?_setCell_same (v := .slice ac nc cc) (h := hr0) ..
      have z1 := World.cell?_setCell_same (v := .map (some (w.heap.size + 1))) (h := (World.cell?_setCell_other (v := .slice ac nc cc) (a := ⟨w.heap.size, 0, none⟩) (b := ⟨w.heap.size, 1, none⟩) (h := by simp) ..).trans hr1) ..
      go_wp2
      try rw [Exit.noGoto_ret]
      refine bodyPost_ret (v := .tuple #[.agg #[.slice ac nc cc, .map (some (w.heap.size + 1))], .nilIface]) ?_ rfl (HT9.out.give (by rw [← HQ.out.1]; intro h; exact absurd rfl h) (by rw [← HQ.out.1]; intro _; exact ⟨rfl, HR.out.1, rfl, HQ.out.2⟩))
      simp [results, Tryz.results46, go_sem, z0, z1]
end Go.Proofs.YtdjapcfejmhjnaaGreatDoor
