/-
  What the laws' helpers on lists of words do: whether two lists read alike, the marks that are laid into a list and looked up. Conditions: the lists read as integers; a list that is marked is the call's own, and short.
  The program's assembler: what it returns.
  Assemble: the specification's and the program's own answer alike.
  The law on Assemble returns true. Conditions: the tables that it reads lie in memory as the program lays them.
-/
import Derived.Test.YtdjapcfejmhjnaaDoorSlices
import Derived.Test.YtdjapcfejmhjnaaDoorAmx
import Derived.Below
import Derived.Deep.QuietTactic
import Derived.BigQuiet
import Derived.Test.YtdjapcfejmhjnaaDoorLkx
import Derived.Test.YtdjapcfejmhjnaaDoorEax
namespace Go.Proofs.YtdjapcfejmhjnaaDoor
open Go.ChangeShapes Go.WideShapes Go.ChangeAt Go.RowKit Go.Deep
set_option linter.unusedVariables false

/-- A slice whose elements lie in a block from 'base' on that may be written; it reads as 'zs'. -/
def OwnAtW (w : World) (base : Nat) (a : Option Addr) (zs : List Int) : Prop :=
  0 < zs.length → ∃ B off, a = some ⟨B, off, none⟩ ∧ base ≤ B ∧ B < w.heap.size ∧ (∀ i, i < zs.length → w.cell? ⟨B, off + i, none⟩ = some (.int .u32 (zs.getD i 0))) ∧ ∀ i, i < zs.length → w.frozen? ⟨B, off + i, none⟩ = false
theorem OwnAtW.seg {w : World} {base : Nat} {a : Option Addr} {zs : List Int} (h : OwnAtW w base a zs) : Seg .u32 w a zs := fun h0 => by
  obtain ⟨B, off, e, _, hlt, hc, _⟩ := h h0
  exact ⟨B, off, e, hlt, hc⟩
theorem OwnAtW.below {w w' : World} {base : Nat} {a : Option Addr} {zs : List Int} (h : OwnAtW w base a zs) (hb : Below w.heap.size w w') : OwnAtW w' base a zs := fun h0 => by
  obtain ⟨B, off, e, h1, hlt, hc, hf⟩ := h h0
  exact ⟨B, off, e, h1, Nat.lt_of_lt_of_le hlt hb.size, fun i hi => (hb.cell (p := ⟨B, off + i, none⟩) hlt).trans (hc i hi), fun i hi => (hb.frozen (p := ⟨B, off + i, none⟩) hlt).trans (hf i hi)⟩
theorem Seg.low {k : IntKind} {w w' : World} {a : Option Addr} {zs : List Int} {C : Nat} (h : Seg k w a zs) (hlow : ∀ b off, a = some ⟨b, off, none⟩ → b < C) (hb : Below C w w') : Seg k w' a zs := fun h0 => by
  obtain ⟨b, off, e, hlt, hc⟩ := h h0
  exact ⟨b, off, e, Nat.lt_of_lt_of_le hlt hb.size, fun i hi => (hb.cell (p := ⟨b, off + i, none⟩) (hlow b off e)).trans (hc i hi)⟩
def marks (k : Int) (n : Nat) : List Int := (List.range n).map fun (i : Nat) => k + (i : Int)
theorem marks_len (k : Int) (n : Nat) : (marks k n).length = n := by simp [marks]
theorem marks_at (k : Int) (n i : Nat) (hi : i < n) : (marks k n).getD i 0 = k + (i : Int) := by simp [marks, hi, List.getD]

set_option maxHeartbeats 400000 in
theorem mark_words (base cap : Nat) (a : Option Addr) (k : Int) (zs : List Int) (w : World) (ho : OwnAtW w base a zs) (hn : zs.length ≤ 1048576) (hk0 : 0 ≤ k) (hk1 : k ≤ 1000000000) :
    Calls Tryd.prog 25 #[.slice a zs.length cap, .int .i64 k] w fun e w' => e = .returned (.int .i64 (k + (zs.length : Int))) ∧ Below base w w' ∧ w'.heap.size = w.heap.size ∧ OwnAtW w' base a (marks k zs.length) := by
  obtain ⟨n, Hn⟩ : ∃ n, Hid (n = zs.length) := ⟨_, rfl⟩
  have hn' : n ≤ 1048576 := by rw [Hn.out]; exact hn
  rw [← Hn.out]
  clear hn
  by_cases h0 : n = 0
  · subst h0
    go_enter Tryd.func25, Tryd.ntmps25
    go_wp2
    refine wp_loop_rounds 1 ?_
    rw [rounds_succ]
    go_wp2
    go_ret
    exact ⟨ret_int (by simp), Below.refl _ _, rfl, fun h => absurd h (by simp [marks])⟩
  · obtain ⟨B, off, rfl, hB, hlt, hc, hf⟩ := ho (by rw [← Hn.out]; omega)
    have HC : Hid (∀ i, i < n → ∃ u, w.cell? ⟨B, off + i, none⟩ = some u) := fun i hi => ⟨_, hc i (by rw [← Hn.out]; exact hi)⟩
    have HF : Hid (∀ i, i < n → w.frozen? ⟨B, off + i, none⟩ = false) := fun i hi => hf i (by rw [← Hn.out]; exact hi)
    clear hc ho hf
    go_enter Tryd.func25, Tryd.ntmps25
    go_wp2
    go_loopw [1, 5] (fun t i wr => ∃ m : Nat, m ≤ n ∧ i = .int .i64 m ∧ t = .int .i64 (k + (m : Int)) ∧ Hid (Below base w wr ∧ wr.heap.size = w.heap.size ∧ (∀ i, i < n → wr.frozen? ⟨B, off + i, none⟩ = false) ∧ (∀ i, i < n → ∃ u, wr.cell? ⟨B, off + i, none⟩ = some u) ∧ ∀ i, i < m → wr.cell? ⟨B, off + i, none⟩ = some (.int .u32 (k + (i : Int))))) (fun _ i _ => n - (intOf i).toNat)
    case atStart => exact ⟨0, by omega, rfl, by go_num, ⟨Below.refl _ _, rfl, HF.out, HC.out, fun i hi => absurd hi (by omega)⟩⟩
    case round =>
      obtain ⟨m, hm, rfl, rfl, HR⟩ := hrel
      by_cases hlt : m < n
      · obtain ⟨hb, hsz, hff, hcc, hmm⟩ := HR.out
        obtain ⟨u, hu⟩ := hcc m hlt
        have hf := hff m hlt
        have HR2 : Hid (Below base w (wr.setCell ⟨B, off + m, none⟩ (.int .u32 (k + (m : Int)))) ∧ (wr.setCell ⟨B, off + m, none⟩ (.int .u32 (k + (m : Int)))).heap.size = w.heap.size ∧ (∀ i, i < n → (wr.setCell ⟨B, off + m, none⟩ (.int .u32 (k + (m : Int)))).frozen? ⟨B, off + i, none⟩ = false) ∧ (∀ i, i < n → ∃ u, (wr.setCell ⟨B, off + m, none⟩ (.int .u32 (k + (m : Int)))).cell? ⟨B, off + i, none⟩ = some u) ∧ ∀ i, i < m + 1 → (wr.setCell ⟨B, off + m, none⟩ (.int .u32 (k + (m : Int)))).cell? ⟨B, off + i, none⟩ = some (.int .u32 (k + (i : Int)))) := by
          refine ⟨hb.setCell (p := ⟨B, off + m, none⟩) hB _, by simp [hsz], fun i hi => by rw [World.frozen?_setCell]; exact hff i hi, fun i hi => ?_, fun i hi => ?_⟩
          · by_cases e : i = m
            · subst e; exact ⟨_, World.cell?_setCell_same _ _ _ hu⟩
            · rw [World.cell?_setCell_other _ _ _ _ (by intro c; injection c with c1 c2 c3; omega)]
              exact hcc i hi
          · by_cases e : i = m
            · subst e; exact World.cell?_setCell_same _ _ _ hu
            · rw [World.cell?_setCell_other _ _ _ _ (by intro c; injection c with c1 c2 c3; omega)]
              exact hmm i (by omega)
        clear hb hsz hff hcc hmm HR
        have hwr : IntKind.u32.wrap (k + (m : Int)) = k + (m : Int) := by rw [IntKind.wrap_u32]; omega
        go_wp2
        go_roundw
        case rel => exact ⟨m + 1, by omega, by go_num, by go_num, HR2⟩
        case measure => simp [intOf]; omega
      · go_wp2
        go_ret
        obtain rfl : m = n := by omega
        obtain ⟨hb, hsz, hff, hcc, hmm⟩ := HR.out
        refine ⟨rfl, hb, hsz, fun _ => ⟨B, off, rfl, hB, ?_, fun i hi => ?_, fun i hi => hff i (by rw [marks_len] at hi; exact hi)⟩⟩
        · have := World.block_lt_of_cell? wr _ (hmm 0 (by omega)); exact this
        · rw [marks_len] at hi
          rw [marks_at k m i hi]
          exact hmm i hi
set_option maxHeartbeats 400000 in
theorem held_words (a : Option Addr) (cap n : Nat) (k : Int) (w : World) (hs : Seg .u32 w a (marks k n)) (hn : n ≤ 1048576) (hk0 : 0 ≤ k) (hk1 : k ≤ 1000000000) :
    Calls Tryd.prog 26 #[.slice a n cap, .int .i64 k] w fun e w' => e = .returned (.int .i64 (k + (n : Int))) ∧ w' = w := by
  go_enter Tryd.func26, Tryd.ntmps26
  go_wp2
  go_loop [1, 5] (fun t i => ∃ m : Nat, m ≤ n ∧ i = .int .i64 m ∧ t = .int .i64 (k + (m : Int))) (fun _ i => n - (intOf i).toNat)
  case atStart => exact ⟨0, by omega, rfl, by go_num⟩
  case round =>
    obtain ⟨m, hm, rfl, rfl⟩ := hrel
    by_cases hlt : m < n
    · obtain ⟨b1, o1, rfl, hbl1, hcl⟩ := hs.at m (by rw [marks_len]; exact hlt)
      rw [marks_at k n m hlt] at hcl
      clear hs hbl1
      have hwr : IntKind.u32.wrap (k + (m : Int)) = k + (m : Int) := by rw [IntKind.wrap_u32]; omega
      go_wp2
      go_round
      case rel => exact ⟨m + 1, by omega, by go_num, by go_num⟩
      case measure => simp [intOf]; omega
    · go_wp2
      go_ret
      obtain rfl : m = n := by omega
      exact ⟨rfl, rfl⟩
end Go.Proofs.YtdjapcfejmhjnaaDoor
namespace Go.Proofs.YtdjapcfejmhjnaaDoor
open Go.ChangeShapes Go.WideShapes Go.ChangeAt Go.RowKit Go.Deep Go.Maps
set_option linter.unusedVariables false
set_option maxRecDepth 20000

/-- What assemble returns. -/
def AsmPost (w : World) (R : List Int × Am.Labs × Int × Int) (e : Ending) (w' : World) : Prop :=
  ∃ v m err, e = .returned (.tuple #[v, m, err]) ∧ (R.2.2.1 ≠ 0 → err = .iface 88 (.agg #[.int .i64 R.2.2.2, .int .i64 R.2.2.1])) ∧ (R.2.2.1 = 0 → err = .nilIface ∧ OwnW w' w.heap.size v R.1 ∧ ∃ mb, m = .map (some mb) ∧ LbMap w' mb R.2.1 ∧ Am.Good R.2.1) ∧ Below w.heap.size w w'
theorem OwnW.weak {w : World} {b b' : Nat} {v : Value} {zs : List Int} (h : OwnW w b v zs) (hb : b' ≤ b) : OwnW w b' v zs := by
  refine ⟨h.1, ?_⟩
  rcases h.2 with h0 | ⟨g, cap, cur, hv, hg, r⟩
  · exact .inl h0
  · exact .inr ⟨g, cap, cur, hv, by omega, r⟩
set_option maxHeartbeats 2000000 in
theorem impl_asm_no (s : ByteArray) (R : List Int × Am.Labs × Int × Int) (w : World) (hs : s.size ≤ 1048576) (hok : Ln.ok s = false) (HR : Hid (R = ([], [], 1, 0))) :
    Calls Tryd.prog 55 #[.string s] w (AsmPost w R) := by
  have HO : Hid _ := hok
  clear hok
  go_enter Tryd.func55, Tryd.ntmps55
  go_wp2_with fail
  refine (impl_lined s _ hs).mono ?_
  rintro e w1 ⟨rfl, rfl⟩
  rw [HO.out]
  go_wp2
  refine bodyPost_ret (v := .tuple #[.slice none 0 0, .map none, .iface 88 (.agg #[.int .i64 0, .int .i64 1])]) (by simp [results, Tryd.results55, go_sem]) rfl ?_
  exact ⟨_, _, _, rfl, (by rw [HR.out]; intro _; rfl), (by rw [HR.out]; intro h; cases h), Below.refl _ _⟩
set_option maxHeartbeats 2000000 in
theorem impl_asm_ok (s : ByteArray) (R : List Int × Am.Labs × Int × Int) (L : Nat) (lines : List ByteArray) (S : Int × Int × Am.Labs) (C : List (Int × Rl.A8)) (w : World) (hs : s.size ≤ 1048576) (hM : TabM w) (hT : Tab w) (hTN : TabN w) (hok : Ln.ok s = true) (HW : Hid (Ln.pieces s = lines)) (HL : Hid (L = lines.length)) (hL : L ≤ 1048576) (HX : Hid (∀ x ∈ lines, x.size ≤ 1048576)) (HS : Hid (Am.scan (lines.map Rl.line) 0 0 [] = S)) (HCC : Hid (Am.codeFrom (lines.map Rl.line) 0 [] = C))
    (HE : Hid (S.1 ≠ 0 → R = ([], S.2.2, S.1, S.2.1))) (HF : Hid (S.1 = 0 → R = ((Am.linkC S.2.2 C 0 []).1, S.2.2, (Am.linkC S.2.2 C 0 []).2.1, (Am.linkC S.2.2 C 0 []).2.2))) (HN : Hid (S.1 = 0 → C.length ≤ 256)) (HLB : Hid (∀ p ∈ C, p.2.lab.size ≤ 1048576)) :
    Calls Tryd.prog 55 #[.string s] w (AsmPost w R) := by
  have HO : Hid _ := hok
  have HSC : Hid _ := impl_scan s lines L S C w hs hM hT hTN HW HL hL HX HS HCC
  have HT : Hid _ := hT
  clear hok hM hT hTN
  go_enter Tryd.func55, Tryd.ntmps55
  go_wp2_with fail
  refine (impl_lined s _ hs).mono ?_
  rintro e w0 ⟨rfl, hw0⟩
  rw [HO.out, hw0]
  clear hw0 w0
  go_wp2_with fail
  refine Calls.mono HSC.out ?_
  rintro e w1 ⟨v, err, rfl, h1, h2, hb, asl, nsl, csl, rfl⟩
  by_cases hz : S.1 = 0
  · obtain ⟨he, hgood, hmap, hown⟩ := h2 hz
    subst he
    have HB : Hid _ := hb
    have HB2 : Hid (Below w1.heap.size w1 (w1.alloc (.cells #[.slice asl nsl csl, .map (some (w.heap.size + 1))] 118))) := (Below.refl _ _).alloc (Nat.le_refl _) _
    have HA : Hid _ := And.intro hgood (And.intro hmap hown)
    obtain ⟨T, HTT⟩ : ∃ T, Hid (Am.linkC S.2.2 C 0 [] = T) := ⟨_, rfl⟩
    have HRT : Hid (R = (T.1, S.2.2, T.2.1, T.2.2)) := by
      have := HF.out hz
      rw [HTT.out] at this
      exact this
    have HLK : Hid _ := impl_link w1.heap.size (w.heap.size + 1) (w.heap.size + 4) (.slice asl nsl csl) C S.2.2 T (w1.alloc (.cells #[.slice asl nsl csl, .map (some (w.heap.size + 1))] 118)) (by simp) (by simp) (owns_below hown HB2.out) (hmap.below HB2.out) hgood (Tab.below HT.out (hb.trans (HB2.out.mono hb.size))) (HN.out hz) HLB.out HTT
    clear h1 h2 hgood hmap hown hb
    go_wp2_with fail
    refine Calls.mono HLK.out ?_
    rintro e w2 ⟨v2, err2, rfl, k1, k2, hb2⟩
    have hmc : w2.cell? ⟨w1.heap.size, 1, none⟩ = some (.map (some (w.heap.size + 1))) := (hb2.cell (p := ⟨w1.heap.size, 1, none⟩) (by simp)).trans (by simp)
    have hb3 : Below w1.heap.size w1 w2 := HB2.out.trans (hb2.mono HB2.out.size)
    have HP : Hid (∀ m, AsmPost w R (.returned (.tuple #[v2, .map (some (w.heap.size + 1)), err2])) (w2.drewN m)) := by
      intro m
      have hbd : Below w2.heap.size w2 (w2.drewN m) := below_drewN (Below.refl _ _) m
      refine ⟨_, _, _, rfl, ?_, ?_, below_drewN (HB.out.trans (hb3.mono HB.out.size)) m⟩
      · rw [HRT.out]
        exact k1
      · rw [HRT.out]
        intro h
        obtain ⟨e1, e2⟩ := k2 h
        refine ⟨e1, OwnW.weak (owns_below e2 hbd) ?_, _, rfl, (HA.out.2.1.below hb3).below hbd, HA.out.1⟩
        have := HB.out.size
        simp
        omega
    clear k1 k2 hb2 hb3
    go_wp2
    go_quiet (fail)
    go_wp2
    exact bodyPost_ret (v := .tuple #[v2, .map (some (w.heap.size + 1)), err2]) (by simp [results, Tryd.results55, go_sem]) rfl (HP.out _)
  · have he := h1 hz
    subst he
    have HQ : Hid (R = ([], S.2.2, S.1, S.2.1)) := HE.out hz
    have HZ : Hid _ := hz
    have HB : Hid _ := hb
    clear h1 h2 hz hb
    go_wp2
    refine bodyPost_ret (v := .tuple #[.slice none 0 0, .map none, .iface 88 (.agg #[.int .i64 S.2.1, .int .i64 S.1])]) (by simp [results, Tryd.results55, go_sem]) rfl ?_
    exact ⟨_, _, _, rfl, (by rw [HQ.out]; intro _; rfl), (by rw [HQ.out]; intro h; exact absurd h HZ.out), HB.out.alloc HB.out.size _⟩
/-- What assemble answers. -/
theorem impl_asm (s : ByteArray) (w : World) (hs : s.size ≤ 1048576) (hM : TabM w) (hT : Tab w) (hTN : TabN w) : Calls Tryd.prog 55 #[.string s] w (AsmPost w (Am.all s)) := by
  cases hok : Ln.ok s with
  | false => exact impl_asm_no s _ w hs hok (by show Am.all s = _; unfold Am.all; rw [hok]; rfl)
  | true =>
    have hfit : ∀ x ∈ (Ln.pieces s).map Rl.line, Rl.Fit 1048576 x := by
      intro x hx
      obtain ⟨y, hy, rfl⟩ := List.mem_map.1 hx
      have h1 := Ln.pieces_short s y hy
      have h2 := Rl.line_fit y
      exact ⟨by have := h2.lab; omega, h2.instr, h2.kind⟩
    refine impl_asm_ok s _ (Ln.pieces s).length (Ln.pieces s) _ (Am.codeOf ((Ln.pieces s).map Rl.line) 0) w hs hM hT hTN hok rfl rfl (by have := Ln.pieces_many s; omega) (fun x hx => by have := Ln.pieces_short s x hx; omega) rfl ?_ ?_ ?_ ?_ ?_
    · show _ = _
      rw [Am.codeFrom_eq]
      rfl
    · show _ → _
      intro h
      unfold Am.all
      rw [if_pos hok]
      exact if_pos h
    · show _ → _
      intro h
      unfold Am.all
      rw [if_pos hok]
      have := Am.link_code (Am.scan ((Ln.pieces s).map Rl.line) 0 0 []).2.2 1048576 ((Ln.pieces s).map Rl.line) 0 [] (fun a ha => ⟨Am.scan_kinds _ _ _ _ h a ha, hfit a ha⟩)
      simp only [List.length_nil] at this
      rw [← this]
      exact if_neg (by simpa using h)
    · show _ → _
      intro h
      have := Am.scan_few _ _ _ _ (by omega) h
      omega
    · show ∀ p ∈ _, _
      have key : ∀ (l : List Rl.A8) (k : Nat), (∀ x ∈ l, Rl.Fit 1048576 x) → ∀ p ∈ Am.codeOf l k, p.2.lab.size ≤ 1048576 := by
        intro l
        induction l with
        | nil => intro k _ p hp; simp [Am.codeOf] at hp
        | cons a l ih =>
          intro k h p hp
          rw [Am.codeOf] at hp
          split at hp
          · exact ih _ (fun x hx => h x (by simp [hx])) p hp
          · rcases List.mem_cons.1 hp with rfl | hp
            · exact (h a (by simp)).lab
            · exact ih _ (fun x hx => h x (by simp [hx])) p hp
      exact key _ _ hfit
end Go.Proofs.YtdjapcfejmhjnaaDoor
namespace Go.Proofs.YtdjapcfejmhjnaaDoor
open Go.ChangeShapes Go.WideShapes Go.ChangeAt Go.RowKit Go.Deep Go.Maps
set_option linter.unusedVariables false
set_option maxRecDepth 20000

namespace Am
theorem scan_zero : ∀ (l : List Rl.A8) (k n : Nat) (ls : Labs), (scan l k n ls).1 = 0 → (scan l k n ls).2.1 = 0
  | [], _, _, _, _ => rfl
  | a :: l, k, n, ls, h => by
    rw [scan] at h ⊢
    by_cases h0 : a.kind = 0
    · rw [if_pos h0] at h; cases h
    · rw [if_neg h0] at h ⊢
      by_cases h1 : a.kind = 1
      · rw [if_pos h1] at h ⊢
        by_cases h2 : 0 ≤ find ls a.lab
        · rw [if_pos h2] at h; cases h
        · rw [if_neg h2] at h ⊢
          exact scan_zero l _ _ _ h
      · rw [if_neg h1] at h ⊢
        by_cases h2 : 256 ≤ n
        · rw [if_pos h2] at h; cases h
        · rw [if_neg h2] at h ⊢
          exact scan_zero l _ _ _ h
theorem link_ends : ∀ (l : List Rl.A8) (k : Nat) (ws : List Int) (ls : Labs), ((link l k ws ls).2.1 = 0 → (link l k ws ls).2.2 = 0) ∧ ((link l k ws ls).2.1 ≠ 0 → (link l k ws ls).1 = [])
  | [], k, ws, ls => ⟨fun _ => rfl, fun h => absurd rfl h⟩
  | a :: l, k, ws, ls => by
    rw [link]
    split
    · exact link_ends l _ _ ls
    · split
      · exact link_ends l _ _ ls
      · split
        · split
          · exact ⟨(fun h => by cases h), fun _ => rfl⟩
          · split
            · exact link_ends l _ _ ls
            · exact ⟨(fun h => by cases h), fun _ => rfl⟩
        · exact link_ends l _ _ ls
theorem all_ends (s : ByteArray) : ((all s).2.2.1 = 0 → (all s).2.2.2 = 0) ∧ ((all s).2.2.1 ≠ 0 → (all s).1 = []) := by
  unfold all
  split
  · simp only
    split
    · rename_i h
      exact ⟨fun g => absurd g h, fun _ => rfl⟩
    · exact link_ends _ _ _ _
  · exact ⟨(fun h => by cases h), fun _ => rfl⟩
theorem link_len : ∀ (l : List Rl.A8) (k : Nat) (ws : List Int) (ls : Labs), (link l k ws ls).1.length ≤ ws.length + l.length
  | [], k, ws, ls => by simp [link]
  | a :: l, k, ws, ls => by
    rw [link]
    split
    · have := link_len l (k + 1) (ws ++ [a.wd]) ls; simp at this ⊢; omega
    · split
      · have := link_len l (k + 1) (ws ++ [enc a.op a.a a.b a.c a.m]) ls; simp at this ⊢; omega
      · split
        · split
          · simp
          · split
            · have := link_len l (k + 1) (ws ++ [enc a.op a.a a.b a.c (find ls a.lab - ws.length - 1)]) ls; simp at this ⊢; omega
            · simp
        · have := link_len l (k + 1) ws ls; simp at this ⊢; omega
theorem all_len (s : ByteArray) (hs : s.size ≤ 1048576) : (all s).1.length ≤ 1048576 := by
  unfold all
  split
  · simp only
    split
    · simp
    · have := link_len ((Ln.pieces s).map Rl.line) 0 [] (scan ((Ln.pieces s).map Rl.line) 0 0 []).2.2
      have h2 := Ln.pieces_many s
      simp at this ⊢
      omega
  · simp
end Am
/-- The cell of errors' type of errors, as the program lays it. -/
def TabT (w : World) : Prop := w.cell? ⟨2, 0, none⟩ = some (.iface 152 (.agg #[.pointer (some ⟨9, 84, none⟩)]))
theorem TabT.below {w w' : World} (h : TabT w) (hb : Below w.heap.size w w') : TabT w' := (hb.cell (p := ⟨2, 0, none⟩) (World.block_lt_of_cell? w _ h)).trans h
/-- What Assemble returns. -/
def AsbPost (w : World) (R : List Int × Am.Labs × Int × Int) (e : Ending) (w' : World) : Prop :=
  ∃ v, e = .returned (.tuple #[v, .int .i64 R.2.2.1, .int .i64 R.2.2.2]) ∧ OwnW w' w.heap.size v R.1 ∧ Below w.heap.size w w'
set_option maxHeartbeats 1000000 in
theorem spec_asb (s : ByteArray) (w : World) (hs : s.size ≤ 1048576) : Calls Tryd.prog 22 #[.string s] w (AsbPost w (Am.all s)) := by
  have HA : Hid _ := spec_all s w hs
  generalize Am.all s = R at HA
  obtain ⟨ws, ls, c, l⟩ := R
  go_enter Tryd.func22, Tryd.ntmps22
  go_wp2_with fail
  refine Calls.mono HA.out ?_
  rintro e w1 ⟨vw, vl, rfl, h1, h2, hb⟩
  have HP : Hid _ := And.intro h1 hb
  clear h1 h2 hb
  go_wp2
  refine bodyPost_ret (v := .tuple #[vw, .int .i64 c, .int .i64 l]) (by simp [results, Tryd.results22, go_sem]) rfl ?_
  exact ⟨_, rfl, HP.out.1, HP.out.2⟩
set_option maxHeartbeats 1000000 in
theorem impl_asb_ok (s : ByteArray) (ws : List Int) (ls : Am.Labs) (w : World) (HA : Hid (Calls Tryd.prog 55 #[.string s] w (AsmPost w (ws, ls, 0, 0)))) : Calls Tryd.prog 23 #[.string s] w (AsbPost w (ws, ls, 0, 0)) := by
  go_enter Tryd.func23, Tryd.ntmps23
  go_wp2_with fail
  refine Calls.mono HA.out ?_
  rintro e w1 ⟨v, m, err, rfl, -, h2, hb⟩
  obtain ⟨rfl, hown, -⟩ := h2 rfl
  have HP : Hid _ := And.intro hown hb
  clear hown hb h2
  go_wp2_with fail
  refine (as_nil _ _).mono ?_
  rintro e w2 ⟨rfl, rfl⟩
  have hbb : Below w1.heap.size w1 (w1.alloc (.cells #[.int .i64 0, .int .i64 0] 88)) := (Below.refl _ _).alloc (Nat.le_refl _) _
  have HQ : Hid _ := And.intro (owns_below HP.out.1 hbb) (HP.out.2.trans (hbb.mono HP.out.2.size))
  clear hbb
  go_wp2
  refine bodyPost_ret (v := .tuple #[v, .int .i64 0, .int .i64 0]) (by simp [results, Tryd.results23, go_sem]) rfl ?_
  exact ⟨_, rfl, HQ.out.1, HQ.out.2⟩
set_option maxHeartbeats 1000000 in
theorem impl_asb_no (s : ByteArray) (ls : Am.Labs) (c l : Int) (hc : c ≠ 0) (w : World) (hT : TabT w) (HA : Hid (Calls Tryd.prog 55 #[.string s] w (AsmPost w ([], ls, c, l)))) : Calls Tryd.prog 23 #[.string s] w (AsbPost w ([], ls, c, l)) := by
  have HT : Hid _ := hT
  have HC : Hid _ := hc
  clear hT hc
  go_enter Tryd.func23, Tryd.ntmps23
  go_wp2_with fail
  refine Calls.mono HA.out ?_
  rintro e w1 ⟨v, m, err, rfl, h1, -, hb⟩
  have herr := h1 HC.out
  simp only at herr
  subst herr
  clear h1
  have hbb : Below w1.heap.size w1 (w1.alloc (.cells #[.int .i64 0, .int .i64 0] 88)) := (Below.refl _ _).alloc (Nat.le_refl _) _
  have HP : Hid _ := hb.trans (hbb.mono hb.size)
  have hsz : w.heap.size ≤ w1.heap.size := hb.size
  have HT2 : Hid _ := TabT.below HT.out HP.out
  clear hb hbb
  go_wp2_with fail
  refine (as_hit l c w1.heap.size (.int .i64 0) (.int .i64 0) _ HT2.out (by simp) (by simp) (by simp) (by simp)).mono ?_
  rintro e w2 ⟨rfl, hw2⟩
  have hx0 : (w1.alloc (.cells #[.int .i64 0, .int .i64 0] 88)).cell? ⟨w1.heap.size, 0, none⟩ = some (.int .i64 0) := by simp
  have hx1 : (w1.alloc (.cells #[.int .i64 0, .int .i64 0] 88)).cell? ⟨w1.heap.size, 1, none⟩ = some (.int .i64 0) := by simp
  have e0 : w2.cell? ⟨w1.heap.size, 0, none⟩ = some (.int .i64 l) := by
    rw [hw2, World.cell?_setCell_other _ _ _ _ (by simp)]
    exact World.cell?_setCell_same _ _ _ (cell_alloc (cell_alloc (cell_alloc (cell_alloc hx0))))
  have e1 : w2.cell? ⟨w1.heap.size, 1, none⟩ = some (.int .i64 c) := by
    rw [hw2]
    exact World.cell?_setCell_same _ _ _ ((World.cell?_setCell_other _ _ _ _ (by simp)).trans (cell_alloc (cell_alloc (cell_alloc (cell_alloc hx1)))))
  have HB : Hid (Below w.heap.size w w2) := by
    show Below _ _ _
    rw [hw2]
    have h0 := HP.out
    have h1 := h0.alloc h0.size (.cells #[.pointer (some ⟨w1.heap.size, 0, none⟩)] 90)
    have h2 := h1.alloc h1.size (.cells #[.pointer (some ⟨9, 90, none⟩), .pointer (some ⟨(w1.alloc (.cells #[.int .i64 0, .int .i64 0] 88)).heap.size, 0, none⟩), .int .u64 150] 126)
    have h3 := h2.alloc h2.size (.cells #[.pointer (some ⟨9, 90, none⟩), .pointer (some ⟨(w1.alloc (.cells #[.int .i64 0, .int .i64 0] 88)).heap.size, 0, none⟩), .int .u64 150] 126)
    have h4 := h3.alloc h3.size (.cells #[.int .i64 l, .int .i64 c] 88)
    have h5 := h4.setCell (p := ⟨w1.heap.size, 0, none⟩) hsz (.int .i64 l)
    exact h5.setCell (p := ⟨w1.heap.size, 1, none⟩) hsz (.int .i64 c)
  have e2 : (w2.alloc (.cells #[] 27)).cell? ⟨w1.heap.size, 0, none⟩ = some (.int .i64 l) := cell_alloc e0
  have e3 : (w2.alloc (.cells #[] 27)).cell? ⟨w1.heap.size, 1, none⟩ = some (.int .i64 c) := cell_alloc e1
  clear hw2 hx0 hx1
  go_wp2
  go_region
  all_goals
    go_wp2
    refine bodyPost_ret (v := .tuple #[.slice (some ⟨w2.heap.size, 0, none⟩) 0 0, .int .i64 c, .int .i64 l]) (by simp [results, Tryd.results23, go_sem]) rfl ?_
    exact ⟨_, rfl, own_nil w2 w.heap.size 27 1 HB.out.size, (HB.out.alloc HB.out.size _).drew⟩
theorem impl_asb (s : ByteArray) (w : World) (hs : s.size ≤ 1048576) (hM : TabM w) (hT : Tab w) (hTN : TabN w) (hTT : TabT w) : Calls Tryd.prog 23 #[.string s] w (AsbPost w (Am.all s)) := by
  have HA : Hid _ := impl_asm s w hs hM hT hTN
  have he := Am.all_ends s
  generalize Am.all s = R at HA he
  obtain ⟨ws, ls, c, l⟩ := R
  simp only at he
  by_cases hc : c = 0
  · obtain rfl := he.1 hc
    subst hc
    exact impl_asb_ok s ws ls w HA
  · obtain rfl := he.2 hc
    exact impl_asb_no s ls c l hc w hTT HA
end Go.Proofs.YtdjapcfejmhjnaaDoor
namespace Go.Proofs.YtdjapcfejmhjnaaDoor
open Go.ChangeShapes Go.WideShapes Go.ChangeAt Go.RowKit Go.Deep Go.Maps
set_option linter.unusedVariables false
set_option maxRecDepth 20000

theorem OwnW.mark {w : World} {base : Nat} {v : Value} {zs : List Int} (h : OwnW w base v zs) : ∃ a cap, v = .slice a zs.length cap ∧ OwnAtW w base a zs ∧ ∀ b off, a = some ⟨b, off, none⟩ → b < w.heap.size := by
  rcases h.2 with ⟨h0, h1⟩ | ⟨g, cap, cur, rfl, hb, hg, h1, h2, h3, h4⟩
  · exact ⟨none, 0, by rw [h0, h1], fun h => absurd h (by omega), fun b off e => by cases e⟩
  · have hlt : g < w.heap.size := by
      rcases Nat.lt_or_ge g w.heap.size with hlt | hge
      · exact hlt
      · rw [Array.getElem?_eq_none hge] at hg; cases hg
    refine ⟨_, _, rfl, fun h0 => ⟨g, 0, rfl, hb, hlt, fun i hi => ?_, fun i hi => ?_⟩, fun b off e => by cases e; exact hlt⟩
    · rw [Nat.zero_add]
      have e : cur[i]? = some (.int .u32 (zs.getD i 0)) := by
        have := congrArg (·[i]?) h4
        simp only [Nat.mul_one] at this
        rw [List.getElem?_take, if_pos hi] at this
        simpa [hi, List.getD] using this
      simp [World.cell?, hg, e]
    · simp [World.frozen?, hg]
set_option maxHeartbeats 2000000 in
theorem asm_law (s : ByteArray) (w : World) (hM : TabM w) (hT : Tab w) (hTN : TabN w) (hTT : TabT w) : Calls Tryd.prog 5 #[.string s] w fun e w' => e = .returned (.bool true) ∧ Below w.heap.size w w' := by
  by_cases hs : s.size ≤ 1048576
  rotate_left
  · have hs' : (1048576 : Int) < (s.size : Int) := by omega
    clear hM hT hTN hTT
    go_enter Tryd.func5, Tryd.ntmps5
    go_wp2
    go_ret
    exact ⟨rfl, Below.refl _ _⟩
  have hs' : ¬ (1048576 : Int) < (s.size : Int) := by omega
  have HL : Hid _ := Am.all_len s hs
  have HSP : Hid (∀ X, Calls Tryd.prog 22 #[.string s] X (AsbPost X (Am.all s))) := fun X => spec_asb s X hs
  have HIM : Hid (∀ X, TabM X → Tab X → TabN X → TabT X → Calls Tryd.prog 23 #[.string s] X (AsbPost X (Am.all s))) := fun X h1 h2 h3 h4 => impl_asb s X hs h1 h2 h3 h4
  have HT : Hid _ := And.intro hM (And.intro hT (And.intro hTN hTT))
  generalize Am.all s = R at HL HSP HIM
  obtain ⟨ws, ls, c, l⟩ := R
  simp only at HL
  clear hM hT hTN hTT hs
  go_enter Tryd.func5, Tryd.ntmps5
  go_wp2_with fail
  refine (HSP.out _).mono ?_
  rintro e w1 ⟨v0, rfl, hown0, hb1⟩
  obtain ⟨a0, cap0, rfl, hat0, hlow0⟩ := OwnW.mark hown0
  have H1 : Hid _ := And.intro hat0.seg (And.intro hlow0 hb1)
  clear hown0 hat0 hlow0 hb1
  go_wp2_with fail
  refine (HIM.out _ (TabM.below HT.out.1 H1.out.2.2) (Tab.below HT.out.2.1 H1.out.2.2) (TabN.below HT.out.2.2.1 H1.out.2.2) (TabT.below HT.out.2.2.2 H1.out.2.2)).mono ?_
  rintro e w2 ⟨g0, rfl, hown1, hb2⟩
  obtain ⟨a1, cap1, rfl, hat1, hlow1⟩ := OwnW.mark hown1
  have H2 : Hid _ := And.intro (H1.out.1.below hb2) (And.intro hat1 (H1.out.2.2.trans (hb2.mono H1.out.2.2.size)))
  have hsz12 : w1.heap.size ≤ w2.heap.size := hb2.size
  clear hown1 hat1 hlow1 hb2
  go_wp2_with fail
  refine (eq_words a1 a0 cap1 cap0 ws _ H2.out.2.1.seg H2.out.1 HL.out).mono ?_
  rintro e w3 ⟨rfl, m3, rfl⟩
  have hbd : Below w2.heap.size w2 (w2.drewN m3) := below_drewN (Below.refl _ _) m3
  have H3 : Hid _ := And.intro (H2.out.1.below hbd) (And.intro (H2.out.2.1.below hbd) (H2.out.2.2.trans (hbd.mono H2.out.2.2.size)))
  clear hbd
  go_wp2_with fail
  refine (mark_words w1.heap.size cap1 a1 1 ws _ H3.out.2.1 HL.out (by omega) (by omega)).mono ?_
  rintro e w4 ⟨rfl, hb4, hsz4, hat4⟩
  have H4 : Hid (Seg .u32 w4 a0 ws ∧ OwnAtW w4 w1.heap.size a1 (marks 1 ws.length) ∧ Below w.heap.size w w4) := ⟨H3.out.1.low H1.out.2.1 hb4, hat4, H3.out.2.2.trans (hb4.mono H1.out.2.2.size)⟩
  clear hb4 hsz4 hat4
  obtain ⟨n, HN⟩ : ∃ n, Hid (n = ws.length) := ⟨_, rfl⟩
  have hn : n ≤ 1048576 := by rw [HN.out]; exact HL.out
  have HEQ : Hid _ := fun (b1 b0 : Option Addr) (c1 c0 : Nat) (X : World) (h1 : Seg .u32 X b1 ws) (h0 : Seg .u32 X b0 ws) => eq_words b1 b0 c1 c0 ws X h1 h0 HL.out
  rw [← HN.out] at H4 HEQ ⊢
  go_wp2_with fail
  refine (held_words a1 cap1 n 1 _ H4.out.2.1.seg hn (by omega) (by omega)).mono ?_
  rintro e w5 ⟨rfl, rfl⟩
  go_wp2_with fail
  refine (HIM.out _ (TabM.below HT.out.1 H4.out.2.2) (Tab.below HT.out.2.1 H4.out.2.2) (TabN.below HT.out.2.2.1 H4.out.2.2) (TabT.below HT.out.2.2.2 H4.out.2.2)).mono ?_
  rintro e w6 ⟨h0, rfl, hown6, hb6⟩
  obtain ⟨a6, cap6, rfl, hat6, hlow6⟩ := OwnW.mark hown6
  have H6 : Hid _ := And.intro (H4.out.1.below hb6) (And.intro hat6.seg (And.intro (H4.out.2.1.below hb6) (H4.out.2.2.trans (hb6.mono H4.out.2.2.size))))
  clear hown6 hat6 hlow6 hb6
  rw [← HN.out]
  go_wp2_with fail
  refine (HEQ.out a6 a0 cap6 cap0 _ H6.out.2.1 H6.out.1).mono ?_
  rintro e w7 ⟨rfl, m7, rfl⟩
  go_wp2_with fail
  refine (held_words a1 cap1 n 1 _ (H6.out.2.2.1.seg.drewN m7) hn (by omega) (by omega)).mono ?_
  rintro e w8 ⟨rfl, rfl⟩
  go_wp2
  go_ret
  exact ⟨rfl, below_drewN H6.out.2.2.2 m7⟩
end Go.Proofs.YtdjapcfejmhjnaaDoor
