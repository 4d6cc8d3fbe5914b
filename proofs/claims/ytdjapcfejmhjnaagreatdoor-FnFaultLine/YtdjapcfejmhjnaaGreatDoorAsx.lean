/-
  What the laws' helpers on lists of words do: whether two lists read alike, the marks that are laid into a list and looked up. Conditions: the lists read as integers; a list that is marked is the call's own, and short.
  The program's assembler: what it returns.
  Assemble: the specification's and the program's own answer alike.
  The law on Assemble returns true. Conditions: the tables that it reads lie in memory as the program lays them.
-/
import Derived.Test.YtdjapcfejmhjnaaGreatDoorAmx
import Derived.Below
import Derived.Deep.QuietTactic
import Derived.BigQuiet
import Derived.Test.YtdjapcfejmhjnaaGreatDoorLkx
import Derived.Test.YtdjapcfejmhjnaaGreatDoorEax
namespace Go.Proofs.YtdjapcfejmhjnaaGreatDoor
open Go.ChangeShapes Go.WideShapes Go.ChangeAt Go.RowKit Go.Deep
set_option linter.unusedVariables false

/-- A slice whose elements lie in a block from 'base' on that may be written; it reads as 'zs'. -/
def OwnAtW (w : World) (base : Nat) (a : Option Addr) (zs : List Int) : Prop :=
  0 < zs.length → ∃ B off, a = some ⟨B, off, none⟩ ∧ base ≤ B ∧ B < w.heap.size ∧ (∀ i, i < zs.length → w.cell? ⟨B, off + i, none⟩ = some (.int .u32 (zs.getD i 0))) ∧ ∀ i, i < zs.length → w.frozen? ⟨B, off + i, none⟩ = false
theorem OwnAtW.seg {w : World} {base : Nat} {a : Option Addr} {zs : List Int} (h : OwnAtW w base a zs) : Seg .u32 w a zs := fun h0 => by
  obtain ⟨B, off, e, _, hlt, hc, _⟩ := h h0
  exact ⟨B, off, e, hlt, hc⟩
theorem OwnAtW.below {w w' : World} {base : Nat} {a : Option Addr} {zs : List Int} (h : OwnAtW w base a zs) (hb : Below w.heap.size w w') : OwnAtW w' base a zs := fun h0 => by
  obtain ⟨B, off, e, h1, hlt, hc, hf⟩ := h h0
  exact ⟨B, off, e, h1, Nat.lt_of_lt_of_le hlt hb.size, fun i hi => (hb.cell (p := ⟨B, off + i, none⟩) hlt).trans (hc i hi), fun i hi => (hb.frozen (p := ⟨B, off + i, none⟩) hlt).trans (hf i hi)⟩
theorem Seg.low {k : IntKind} {w w' : World} {a : Option Addr} {zs : List Int} {C : Nat} (h : Seg k w a zs) (hlow : ∀ b off, a = some ⟨b, off, none⟩ → b < C) (hb : Below C w w') : Seg k w' a zs := fun h0 => by
  obtain ⟨b, off, e, hlt, hc⟩ := h h0
  exact ⟨b, off, e, Nat.lt_of_lt_of_le hlt hb.size, fun i hi => (hb.cell (p := ⟨b, off + i, none⟩) (hlow b off e)).trans (hc i hi)⟩
def marks (k : Int) (n : Nat) : List Int := (List.range n).map fun (i : Nat) => k + (i : Int)
theorem marks_len (k : Int) (n : Nat) : (marks k n).length = n := by simp [marks]
theorem marks_at (k : Int) (n i : Nat) (hi : i < n) : (marks k n).getD i 0 = k + (i : Int) := by simp [marks, hi, List.getD]

end Go.Proofs.YtdjapcfejmhjnaaGreatDoor
namespace Go.Proofs.YtdjapcfejmhjnaaGreatDoor
open Go.ChangeShapes Go.WideShapes Go.ChangeAt Go.RowKit Go.Deep Go.Maps
set_option linter.unusedVariables false
set_option maxRecDepth 20000

/-- What assemble returns. -/
def AsmPost (w : World) (R : List Int × Am.Labs × Int × Int) (e : Ending) (w' : World) : Prop :=
  ∃ v m err, e = .returned (.tuple #[v, m, err]) ∧ (R.2.2.1 ≠ 0 → err = .iface 62 (.agg #[.int .i64 R.2.2.2, .int .i64 R.2.2.1])) ∧ (R.2.2.1 = 0 → err = .nilIface ∧ OwnW w' w.heap.size v R.1 ∧ ∃ mb, m = .map (some mb) ∧ LbMap w' mb R.2.1 ∧ Am.Good R.2.1) ∧ Below w.heap.size w w'
theorem OwnW.weak {w : World} {b b' : Nat} {v : Value} {zs : List Int} (h : OwnW w b v zs) (hb : b' ≤ b) : OwnW w b' v zs := by
  refine ⟨h.1, ?_⟩
  rcases h.2 with h0 | ⟨g, cap, cur, hv, hg, r⟩
  · exact .inl h0
  · exact .inr ⟨g, cap, cur, hv, by omega, r⟩
set_option maxHeartbeats 2000000 in
theorem impl_asm_no (s : ByteArray) (R : List Int × Am.Labs × Int × Int) (w : World) (hs : s.size ≤ 1048576) (hok : Ln.ok s = false) (HR : Hid (R = ([], [], 1, 0))) :
    Calls Tryz.prog 28 #[.string s] w (AsmPost w R) := by
  have HO : Hid _ := hok
  clear hok
  go_enter Tryz.func28, Tryz.ntmps28
  go_wp2_with fail
  refine (impl_lined s _ hs).mono ?_
  rintro e w1 ⟨rfl, rfl⟩
  rw [HO.out]
  go_wp2
  refine bodyPost_ret (v := .tuple #[.slice none 0 0, .map none, .iface 62 (.agg #[.int .i64 0, .int .i64 1])]) (by simp [results, Tryz.results28, go_sem]) rfl ?_
  exact ⟨_, _, _, rfl, (by rw [HR.out]; intro _; rfl), (by rw [HR.out]; intro h; cases h), Below.refl _ _⟩
set_option maxHeartbeats 2000000 in
theorem impl_asm_ok (s : ByteArray) (R : List Int × Am.Labs × Int × Int) (L : Nat) (lines : List ByteArray) (S : Int × Int × Am.Labs) (C : List (Int × Rl.A8)) (w : World) (hs : s.size ≤ 1048576) (hM : TabM w) (hT : Tab w) (hTN : TabN w) (hok : Ln.ok s = true) (HW : Hid (Ln.pieces s = lines)) (HL : Hid (L = lines.length)) (hL : L ≤ 1048576) (HX : Hid (∀ x ∈ lines, x.size ≤ 1048576)) (HS : Hid (Am.scan (lines.map Rl.line) 0 0 [] = S)) (HCC : Hid (Am.codeFrom (lines.map Rl.line) 0 [] = C))
    (HE : Hid (S.1 ≠ 0 → R = ([], S.2.2, S.1, S.2.1))) (HF : Hid (S.1 = 0 → R = ((Am.linkC S.2.2 C 0 []).1, S.2.2, (Am.linkC S.2.2 C 0 []).2.1, (Am.linkC S.2.2 C 0 []).2.2))) (HN : Hid (S.1 = 0 → C.length ≤ 256)) (HLB : Hid (∀ p ∈ C, p.2.lab.size ≤ 1048576)) :
    Calls Tryz.prog 28 #[.string s] w (AsmPost w R) := by
  have HO : Hid _ := hok
  have HSC : Hid _ := impl_scan s lines L S C w hs hM hT hTN HW HL hL HX HS HCC
  have HT : Hid _ := hT
  clear hok hM hT hTN
  go_enter Tryz.func28, Tryz.ntmps28
  go_wp2_with fail
  refine (impl_lined s _ hs).mono ?_
  rintro e w0 ⟨rfl, hw0⟩
  rw [HO.out, hw0]
  clear hw0 w0
  go_wp2_with fail
  refine Calls.mono HSC.out ?_
  rintro e w1 ⟨v, err, rfl, h1, h2, hb, asl, nsl, csl, rfl⟩
  by_cases hz : S.1 = 0
  · obtain ⟨he, hgood, hmap, hown⟩ := h2 hz
    subst he
    have HB : Hid _ := hb
    have HB2 : Hid (Below w1.heap.size w1 (w1.alloc (.cells #[.slice asl nsl csl, .map (some (w.heap.size + 1))] 90))) := (Below.refl _ _).alloc (Nat.le_refl _) _
    have HA : Hid _ := And.intro hgood (And.intro hmap hown)
    obtain ⟨T, HTT⟩ : ∃ T, Hid (Am.linkC S.2.2 C 0 [] = T) := ⟨_, rfl⟩
    have HRT : Hid (R = (T.1, S.2.2, T.2.1, T.2.2)) := by
      have := HF.out hz
      rw [HTT.out] at this
      exact this
    have HLK : Hid _ := impl_link w1.heap.size (w.heap.size + 1) (w.heap.size + 4) (.slice asl nsl csl) C S.2.2 T (w1.alloc (.cells #[.slice asl nsl csl, .map (some (w.heap.size + 1))] 90)) (by simp) (by simp) (owns_below hown HB2.out) (hmap.below HB2.out) hgood (Tab.below HT.out (hb.trans (HB2.out.mono hb.size))) (HN.out hz) HLB.out HTT
    clear h1 h2 hgood hmap hown hb
    go_wp2_with fail
    refine Calls.mono HLK.out ?_
    rintro e w2 ⟨v2, err2, rfl, k1, k2, hb2⟩
    have hmc : w2.cell? ⟨w1.heap.size, 1, none⟩ = some (.map (some (w.heap.size + 1))) := (hb2.cell (p := ⟨w1.heap.size, 1, none⟩) (by simp)).trans (by simp)
    have hb3 : Below w1.heap.size w1 w2 := HB2.out.trans (hb2.mono HB2.out.size)
    have HP : Hid (∀ m, AsmPost w R (.returned (.tuple #[v2, .map (some (w.heap.size + 1)), err2])) (w2.drewN m)) := by
      intro m
      have hbd : Below w2.heap.size w2 (w2.drewN m) := below_drewN (Below.refl _ _) m
      refine ⟨_, _, _, rfl, ?_, ?_, below_drewN (HB.out.trans (hb3.mono HB.out.size)) m⟩
      · rw [HRT.out]
        exact k1
      · rw [HRT.out]
        intro h
        obtain ⟨e1, e2⟩ := k2 h
        refine ⟨e1, OwnW.weak (owns_below e2 hbd) ?_, _, rfl, (HA.out.2.1.below hb3).below hbd, HA.out.1⟩
        have := HB.out.size
        simp
        omega
    clear k1 k2 hb2 hb3
    go_wp2
    go_quiet (fail)
    go_wp2
    exact bodyPost_ret (v := .tuple #[v2, .map (some (w.heap.size + 1)), err2]) (by simp [results, Tryz.results28, go_sem]) rfl (HP.out _)
  · have he := h1 hz
    subst he
    have HQ : Hid (R = ([], S.2.2, S.1, S.2.1)) := HE.out hz
    have HZ : Hid _ := hz
    have HB : Hid _ := hb
    clear h1 h2 hz hb
    go_wp2
    refine bodyPost_ret (v := .tuple #[.slice none 0 0, .map none, .iface 62 (.agg #[.int .i64 S.2.1, .int .i64 S.1])]) (by simp [results, Tryz.results28, go_sem]) rfl ?_
    exact ⟨_, _, _, rfl, (by rw [HQ.out]; intro _; rfl), (by rw [HQ.out]; intro h; exact absurd h HZ.out), HB.out.alloc HB.out.size _⟩
/-- What assemble answers. -/
theorem impl_asm (s : ByteArray) (w : World) (hs : s.size ≤ 1048576) (hM : TabM w) (hT : Tab w) (hTN : TabN w) : Calls Tryz.prog 28 #[.string s] w (AsmPost w (Am.all s)) := by
  cases hok : Ln.ok s with
  | false => exact impl_asm_no s _ w hs hok (by show Am.all s = _; unfold Am.all; rw [hok]; rfl)
  | true =>
    have hfit : ∀ x ∈ (Ln.pieces s).map Rl.line, Rl.Fit 1048576 x := by
      intro x hx
      obtain ⟨y, hy, rfl⟩ := List.mem_map.1 hx
      have h1 := Ln.pieces_short s y hy
      have h2 := Rl.line_fit y
      exact ⟨by have := h2.lab; omega, h2.instr, h2.kind⟩
    refine impl_asm_ok s _ (Ln.pieces s).length (Ln.pieces s) _ (Am.codeOf ((Ln.pieces s).map Rl.line) 0) w hs hM hT hTN hok rfl rfl (by have := Ln.pieces_many s; omega) (fun x hx => by have := Ln.pieces_short s x hx; omega) rfl ?_ ?_ ?_ ?_ ?_
    · show _ = _
      rw [Am.codeFrom_eq]
      rfl
    · show _ → _
      intro h
      unfold Am.all
      rw [if_pos hok]
      exact if_pos h
    · show _ → _
      intro h
      unfold Am.all
      rw [if_pos hok]
      have := Am.link_code (Am.scan ((Ln.pieces s).map Rl.line) 0 0 []).2.2 1048576 ((Ln.pieces s).map Rl.line) 0 [] (fun a ha => ⟨Am.scan_kinds _ _ _ _ h a ha, hfit a ha⟩)
      simp only [List.length_nil] at this
      rw [← this]
      exact if_neg (by simpa using h)
    · show _ → _
      intro h
      have := Am.scan_few _ _ _ _ (by omega) h
      omega
    · show ∀ p ∈ _, _
      have key : ∀ (l : List Rl.A8) (k : Nat), (∀ x ∈ l, Rl.Fit 1048576 x) → ∀ p ∈ Am.codeOf l k, p.2.lab.size ≤ 1048576 := by
        intro l
        induction l with
        | nil => intro k _ p hp; simp [Am.codeOf] at hp
        | cons a l ih =>
          intro k h p hp
          rw [Am.codeOf] at hp
          split at hp
          · exact ih _ (fun x hx => h x (by simp [hx])) p hp
          · rcases List.mem_cons.1 hp with rfl | hp
            · exact (h a (by simp)).lab
            · exact ih _ (fun x hx => h x (by simp [hx])) p hp
      exact key _ _ hfit
end Go.Proofs.YtdjapcfejmhjnaaGreatDoor
namespace Go.Proofs.YtdjapcfejmhjnaaGreatDoor
open Go.ChangeShapes Go.WideShapes Go.ChangeAt Go.RowKit Go.Deep Go.Maps
set_option linter.unusedVariables false
set_option maxRecDepth 20000

namespace Am
theorem scan_zero : ∀ (l : List Rl.A8) (k n : Nat) (ls : Labs), (scan l k n ls).1 = 0 → (scan l k n ls).2.1 = 0
  | [], _, _, _, _ => rfl
  | a :: l, k, n, ls, h => by
    rw [scan] at h ⊢
    by_cases h0 : a.kind = 0
    · rw [if_pos h0] at h; cases h
    · rw [if_neg h0] at h ⊢
      by_cases h1 : a.kind = 1
      · rw [if_pos h1] at h ⊢
        by_cases h2 : 0 ≤ find ls a.lab
        · rw [if_pos h2] at h; cases h
        · rw [if_neg h2] at h ⊢
          exact scan_zero l _ _ _ h
      · rw [if_neg h1] at h ⊢
        by_cases h2 : 256 ≤ n
        · rw [if_pos h2] at h; cases h
        · rw [if_neg h2] at h ⊢
          exact scan_zero l _ _ _ h
theorem link_ends : ∀ (l : List Rl.A8) (k : Nat) (ws : List Int) (ls : Labs), ((link l k ws ls).2.1 = 0 → (link l k ws ls).2.2 = 0) ∧ ((link l k ws ls).2.1 ≠ 0 → (link l k ws ls).1 = [])
  | [], k, ws, ls => ⟨fun _ => rfl, fun h => absurd rfl h⟩
  | a :: l, k, ws, ls => by
    rw [link]
    split
    · exact link_ends l _ _ ls
    · split
      · exact link_ends l _ _ ls
      · split
        · split
          · exact ⟨(fun h => by cases h), fun _ => rfl⟩
          · split
            · exact link_ends l _ _ ls
            · exact ⟨(fun h => by cases h), fun _ => rfl⟩
        · exact link_ends l _ _ ls
theorem all_ends (s : ByteArray) : ((all s).2.2.1 = 0 → (all s).2.2.2 = 0) ∧ ((all s).2.2.1 ≠ 0 → (all s).1 = []) := by
  unfold all
  split
  · simp only
    split
    · rename_i h
      exact ⟨fun g => absurd g h, fun _ => rfl⟩
    · exact link_ends _ _ _ _
  · exact ⟨(fun h => by cases h), fun _ => rfl⟩
theorem link_len : ∀ (l : List Rl.A8) (k : Nat) (ws : List Int) (ls : Labs), (link l k ws ls).1.length ≤ ws.length + l.length
  | [], k, ws, ls => by simp [link]
  | a :: l, k, ws, ls => by
    rw [link]
    split
    · have := link_len l (k + 1) (ws ++ [a.wd]) ls; simp at this ⊢; omega
    · split
      · have := link_len l (k + 1) (ws ++ [enc a.op a.a a.b a.c a.m]) ls; simp at this ⊢; omega
      · split
        · split
          · simp
          · split
            · have := link_len l (k + 1) (ws ++ [enc a.op a.a a.b a.c (find ls a.lab - ws.length - 1)]) ls; simp at this ⊢; omega
            · simp
        · have := link_len l (k + 1) ws ls; simp at this ⊢; omega
theorem all_len (s : ByteArray) (hs : s.size ≤ 1048576) : (all s).1.length ≤ 1048576 := by
  unfold all
  split
  · simp only
    split
    · simp
    · have := link_len ((Ln.pieces s).map Rl.line) 0 [] (scan ((Ln.pieces s).map Rl.line) 0 0 []).2.2
      have h2 := Ln.pieces_many s
      simp at this ⊢
      omega
  · simp
end Am
/-- The cell of errors' type of errors, as the program lays it. -/
def TabT (w : World) : Prop := w.cell? ⟨0, 0, none⟩ = some (.iface 138 (.agg #[.pointer (some ⟨9, 53, none⟩)]))
theorem TabT.below {w w' : World} (h : TabT w) (hb : Below w.heap.size w w') : TabT w' := (hb.cell (p := ⟨0, 0, none⟩) (World.block_lt_of_cell? w _ h)).trans h
/-- What Assemble returns. -/
def AsbPost (w : World) (R : List Int × Am.Labs × Int × Int) (e : Ending) (w' : World) : Prop :=
  ∃ v, e = .returned (.tuple #[v, .int .i64 R.2.2.1, .int .i64 R.2.2.2]) ∧ OwnW w' w.heap.size v R.1 ∧ Below w.heap.size w w'
set_option maxHeartbeats 1000000 in
theorem spec_asb (s : ByteArray) (w : World) (hs : s.size ≤ 1048576) : Calls Tryz.prog 13 #[.string s] w (AsbPost w (Am.all s)) := by
  have HA : Hid _ := spec_all s w hs
  generalize Am.all s = R at HA
  obtain ⟨ws, ls, c, l⟩ := R
  go_enter Tryz.func13, Tryz.ntmps13
  go_wp2_with fail
  refine Calls.mono HA.out ?_
  rintro e w1 ⟨vw, vl, rfl, h1, h2, hb⟩
  have HP : Hid _ := And.intro h1 hb
  clear h1 h2 hb
  go_wp2
  refine bodyPost_ret (v := .tuple #[vw, .int .i64 c, .int .i64 l]) (by simp [results, Tryz.results13, go_sem]) rfl ?_
  exact ⟨_, rfl, HP.out.1, HP.out.2⟩
set_option maxHeartbeats 1000000 in
theorem impl_asb_ok (s : ByteArray) (ws : List Int) (ls : Am.Labs) (w : World) (HA : Hid (Calls Tryz.prog 28 #[.string s] w (AsmPost w (ws, ls, 0, 0)))) : Calls Tryz.prog 9 #[.string s] w (AsbPost w (ws, ls, 0, 0)) := by
  go_enter Tryz.func9, Tryz.ntmps9
  go_wp2_with fail
  refine Calls.mono HA.out ?_
  rintro e w1 ⟨v, m, err, rfl, -, h2, hb⟩
  obtain ⟨rfl, hown, -⟩ := h2 rfl
  have HP : Hid _ := And.intro hown hb
  clear hown hb h2
  go_wp2_with fail
  refine (as_nil _ _).mono ?_
  rintro e w2 ⟨rfl, rfl⟩
  have hbb : Below w1.heap.size w1 (w1.alloc (.cells #[.int .i64 0, .int .i64 0] 62)) := (Below.refl _ _).alloc (Nat.le_refl _) _
  have HQ : Hid _ := And.intro (owns_below HP.out.1 hbb) (HP.out.2.trans (hbb.mono HP.out.2.size))
  clear hbb
  go_wp2
  refine bodyPost_ret (v := .tuple #[v, .int .i64 0, .int .i64 0]) (by simp [results, Tryz.results9, go_sem]) rfl ?_
  exact ⟨_, rfl, HQ.out.1, HQ.out.2⟩
set_option maxHeartbeats 1000000 in
theorem impl_asb_no (s : ByteArray) (ls : Am.Labs) (c l : Int) (hc : c ≠ 0) (w : World) (hT : TabT w) (HA : Hid (Calls Tryz.prog 28 #[.string s] w (AsmPost w ([], ls, c, l)))) : Calls Tryz.prog 9 #[.string s] w (AsbPost w ([], ls, c, l)) := by
  have HT : Hid _ := hT
  have HC : Hid _ := hc
  clear hT hc
  go_enter Tryz.func9, Tryz.ntmps9
  go_wp2_with fail
  refine Calls.mono HA.out ?_
  rintro e w1 ⟨v, m, err, rfl, h1, -, hb⟩
  have herr := h1 HC.out
  simp only at herr
  subst herr
  clear h1
  have hbb : Below w1.heap.size w1 (w1.alloc (.cells #[.int .i64 0, .int .i64 0] 62)) := (Below.refl _ _).alloc (Nat.le_refl _) _
  have HP : Hid _ := hb.trans (hbb.mono hb.size)
  have hsz : w.heap.size ≤ w1.heap.size := hb.size
  have HT2 : Hid _ := TabT.below HT.out HP.out
  clear hb hbb
  go_wp2_with fail
  refine (as_hit l c w1.heap.size (.int .i64 0) (.int .i64 0) _ HT2.out (by simp) (by simp) (by simp) (by simp)).mono ?_
  rintro e w2 ⟨rfl, hw2⟩
  have hx0 : (w1.alloc (.cells #[.int .i64 0, .int .i64 0] 62)).cell? ⟨w1.heap.size, 0, none⟩ = some (.int .i64 0) := by simp
  have hx1 : (w1.alloc (.cells #[.int .i64 0, .int .i64 0] 62)).cell? ⟨w1.heap.size, 1, none⟩ = some (.int .i64 0) := by simp
  have e0 : w2.cell? ⟨w1.heap.size, 0, none⟩ = some (.int .i64 l) := by
    rw [hw2, World.cell?_setCell_other _ _ _ _ (by simp)]
    exact World.cell?_setCell_same _ _ _ (cell_alloc (cell_alloc (cell_alloc (cell_alloc hx0))))
  have e1 : w2.cell? ⟨w1.heap.size, 1, none⟩ = some (.int .i64 c) := by
    rw [hw2]
    exact World.cell?_setCell_same _ _ _ ((World.cell?_setCell_other _ _ _ _ (by simp)).trans (cell_alloc (cell_alloc (cell_alloc (cell_alloc hx1)))))
  have HB : Hid (Below w.heap.size w w2) := by
    show Below _ _ _
    rw [hw2]
    have h0 := HP.out
    have h1 := h0.alloc h0.size (.cells #[.pointer (some ⟨w1.heap.size, 0, none⟩)] 64)
    have h2 := h1.alloc h1.size (.cells #[.pointer (some ⟨9, 64, none⟩), .pointer (some ⟨(w1.alloc (.cells #[.int .i64 0, .int .i64 0] 62)).heap.size, 0, none⟩), .int .u64 150] 98)
    have h3 := h2.alloc h2.size (.cells #[.pointer (some ⟨9, 64, none⟩), .pointer (some ⟨(w1.alloc (.cells #[.int .i64 0, .int .i64 0] 62)).heap.size, 0, none⟩), .int .u64 150] 98)
    have h4 := h3.alloc h3.size (.cells #[.int .i64 l, .int .i64 c] 62)
    have h5 := h4.setCell (p := ⟨w1.heap.size, 0, none⟩) hsz (.int .i64 l)
    exact h5.setCell (p := ⟨w1.heap.size, 1, none⟩) hsz (.int .i64 c)
  have e2 : (w2.alloc (.cells #[] 42)).cell? ⟨w1.heap.size, 0, none⟩ = some (.int .i64 l) := cell_alloc e0
  have e3 : (w2.alloc (.cells #[] 42)).cell? ⟨w1.heap.size, 1, none⟩ = some (.int .i64 c) := cell_alloc e1
  clear hw2 hx0 hx1
  go_wp2
  go_region
  all_goals
    go_wp2
    refine bodyPost_ret (v := .tuple #[.slice (some ⟨w2.heap.size, 0, none⟩) 0 0, .int .i64 c, .int .i64 l]) (by simp [results, Tryz.results9, go_sem]) rfl ?_
    exact ⟨_, rfl, own_nil w2 w.heap.size 42 1 HB.out.size, (HB.out.alloc HB.out.size _).drew⟩
theorem impl_asb (s : ByteArray) (w : World) (hs : s.size ≤ 1048576) (hM : TabM w) (hT : Tab w) (hTN : TabN w) (hTT : TabT w) : Calls Tryz.prog 9 #[.string s] w (AsbPost w (Am.all s)) := by
  have HA : Hid _ := impl_asm s w hs hM hT hTN
  have he := Am.all_ends s
  generalize Am.all s = R at HA he
  obtain ⟨ws, ls, c, l⟩ := R
  simp only at he
  by_cases hc : c = 0
  · obtain rfl := he.1 hc
    subst hc
    exact impl_asb_ok s ws ls w HA
  · obtain rfl := he.2 hc
    exact impl_asb_no s ls c l hc w hTT HA
end Go.Proofs.YtdjapcfejmhjnaaGreatDoor
namespace Go.Proofs.YtdjapcfejmhjnaaGreatDoor
open Go.ChangeShapes Go.WideShapes Go.ChangeAt Go.RowKit Go.Deep Go.Maps
set_option linter.unusedVariables false
set_option maxRecDepth 20000

end Go.Proofs.YtdjapcfejmhjnaaGreatDoor
