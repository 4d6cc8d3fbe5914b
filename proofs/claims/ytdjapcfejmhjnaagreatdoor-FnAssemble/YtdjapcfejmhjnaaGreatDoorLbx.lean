/-
  The program's LabelsOf: what it returns.
  The specification's LabelsOf: what it returns.
  The text of a mark, and lists of labels held against one another: what the law's helpers return.
  The law on LabelsOf returns true. Conditions: the tables that it reads lie in memory as the program lays them.
-/
import Derived.Test.YtdjapcfejmhjnaaGreatDoorLpx
import Derived.Test.YtdjapcfejmhjnaaGreatDoorIter
import Derived.Test.YtdjapcfejmhjnaaGreatDoorDraws
import Derived.Test.YtdjapcfejmhjnaaGreatDoorAsx
import Derived.Laws.Cover1
import Derived.Deep.QuietTactic
import Derived.BigQuiet
import Derived.Laws.BytesArg
import Derived.Deep.RegionHeld3
namespace Go.Proofs.YtdjapcfejmhjnaaGreatDoor
open Go.ChangeShapes Go.WideShapes Go.ChangeAt Go.RowKit Go.Deep Go.Maps
set_option linter.unusedVariables false
set_option maxRecDepth 20000

theorem keys_any (mb : Option Nat) (W : World) : Calls Tryz.prog 31 #[.map mb] W fun e w' => e = .returned (.func (.func 54) #[] #[.pointer (some ⟨W.heap.size, 0, none⟩)]) ∧ w' = W.alloc (.cells #[.map mb] 58) :=
  (callsIn_wide (n := 5)).1 (Tryz.maps_Keys_31 mb W)
/-- Names that lie in a row of memory. -/
def NmAt (w : World) (a : Option Addr) (S : Am.Labs) : Prop :=
  0 < S.length → ∃ b off, a = some ⟨b, off, none⟩ ∧ b < w.heap.size ∧ ∀ i p, S[i]? = some p → w.cell? ⟨b, off + i, none⟩ = some (.string p.1)
theorem sorted_any (b : Nat) (ls : Am.Labs) (w : World) (hm : LbMap w b ls) (hg : Am.Good ls) (hl : ls.length ≤ 1048576) :
    Calls Tryz.prog 30 #[.func (.func 54) #[] #[.pointer (some ⟨w.heap.size, 0, none⟩)]] (w.alloc (.cells #[.map (some b)] 58)) fun e w' => ∃ a cap, e = .returned (.slice a (Am.srt ls).length cap) ∧ NmAt w' a (Am.srt ls) ∧ (∀ bb off, a = some ⟨bb, off, none⟩ → w.heap.size < bb) ∧ Below (w.heap.size + 1) (w.alloc (.cells #[.map (some b)] 58)) w' := by
  have hk := keys_perm hm hg
  obtain ⟨es, hes⟩ : IsMap (dm ls) := dm_isMap ls
  have hsz : Maps.size (dm ls) = ls.length := by
    have := hk.length_eq
    rw [hes] at this ⊢
    simp [strKeys] at this
    rw [size_eq]
    exact this.symm
  refine Calls.mono ((callsIn_wide (n := 5)).1 (Tryz.slices_Sorted_keys_30_31 b ls.length (dm ls) (plainElem Tryz.prog 3) w hm (by rw [hsz]; unfold maxLen; omega) (by rw [hsz]; omega))) ?_
  rintro e w' ⟨v, ss, rfl, hS, hrow, -, hb⟩
  have hss : ss.mergeSort (fun x y => decide (x ≤ y)) = (Am.srt ls).map Am.nml := Am.sorted_names (hS.trans hk.symm)
  have hlen : ss.length = (Am.srt ls).length := by rw [(hS.trans hk.symm).length_eq, (Am.srt_perm ls).length_eq]; simp
  rw [hss, hlen] at hrow
  have hsz1 : (w.alloc (.cells #[.map (some b)] 58)).heap.size = w.heap.size + 1 := by simp
  rw [hsz1] at hrow hb
  rcases hrow.2 with ⟨h0, h1⟩ | ⟨g, cap, cur, rfl, hbg, hgh, h1, h2, h3, h4⟩
  · refine ⟨none, 0, by rw [h0, h1], fun h => absurd h (by omega), fun bb off e => (by cases e), hb⟩
  · refine ⟨_, _, rfl, fun h0 => ⟨g, 0, rfl, ?_, fun i p hi => ?_⟩, fun bb off e => (by cases e; omega), hb⟩
    · rcases Nat.lt_or_ge g w'.heap.size with hlt | hge
      · exact hlt
      · rw [Array.getElem?_eq_none hge] at hgh; cases hgh
    · rw [Nat.zero_add]
      have hil : i < (Am.srt ls).length := by
        rcases Nat.lt_or_ge i (Am.srt ls).length with h | h
        · exact h
        · rw [List.getElem?_eq_none h] at hi; cases hi
      have e : cur[i]? = some (.string p.1) := by
        have := congrArg (·[i]?) h4
        simp only [Nat.mul_one] at this
        rw [List.getElem?_take, if_pos hil] at this
        simp only [List.map_map, List.getElem?_map, hi] at this
        simpa [encStr, Am.nml] using this
      simp [World.cell?, hgh, e]
theorem LbMap.get {w : World} {b : Nat} {ls : Am.Labs} (h : LbMap w b ls) (hg : Am.Good ls) (p : ByteArray × Int) (hp : p ∈ ls) (hx : p.1.size ≤ 1048576) :
    (Instr.lookup 58 (.map (some b)) (.string p.1) false).run Tryz.prog w = .ok (.int .i64 p.2) w := by
  have hkey : keyOf Tryz.prog 9 (.string p.1) = some (kl p.1) := WideMaps.keyOf_string_mk Tryz.underlying9 (by unfold maxLen; omega)
  obtain ⟨c, hrun, hat, hwc⟩ := World.ownsMap.lookup_int (t := 58) h law9 Tryz.underlying58 Tryz.underlying3 (zero3 w) hkey
  have hf := hg.found p hp
  have h0 : 0 ≤ Am.find ls p.1 := by rw [hf]; exact (hg.range p hp).1
  rw [(dm_find hg p.1).2 h0] at hat
  injection hat with hat
  injection hat with _ hat
  rw [hrun, ← hat, hf]
theorem Good.sizes {ls : Am.Labs} (h : Am.Good ls) : ∀ p ∈ ls, p.1.size ≤ 1048576 := by
  induction h with
  | nil => intro p hp; cases hp
  | @snoc ls x n hg h1 hx h2 h3 ih =>
    intro p hp
    rw [List.mem_append, List.mem_singleton] at hp
    rcases hp with hp | rfl
    · exact ih p hp
    · exact hx
namespace Am
/-- What LabelsOf tells of a text. -/
def labs (s : ByteArray) : Labs := if (all s).2.2.1 = 0 then srt (all s).2.1 else []
theorem scan_labs : ∀ (l : List Rl.A8) (k n : Nat) (ls : Labs), (scan l k n ls).2.2.length ≤ ls.length + l.length
  | [], _, _, ls => by simp [scan]
  | a :: l, k, n, ls => by
    rw [scan]
    split
    · simp
    · split
      · split
        · simp
        · have := scan_labs l (k + 1) n (ls ++ [(a.lab, (n : Int))]); simp at this ⊢; omega
      · split
        · simp
        · have := scan_labs l (k + 1) (n + 1) ls; simp at this ⊢; omega
theorem all_labs (s : ByteArray) (hs : s.size ≤ 1048576) : (all s).2.1.length ≤ 1048576 := by
  unfold all
  split
  · have := scan_labs ((Ln.pieces s).map Rl.line) 0 0 []
    have h2 := Ln.pieces_many s
    simp at this
    simp only
    split <;> (simp only; omega)
  · simp
end Am
/-- What LabelsOf returns. -/
def LabPost (w : World) (ls : Am.Labs) (e : Ending) (w' : World) : Prop := ∃ v, e = .returned v ∧ OwnLb w' w.heap.size v ls ∧ Below w.heap.size w w'
/-- What the program's loop over the names keeps. -/
structure Lv (w2 wr : World) (o : Nat) (v : Value) (out : Am.Labs) : Prop where
  turn : Turn o w2 wr
  own : OwnLb wr o v out
  blk : ∀ g, v.ownBlock = some g → g = o ∨ w2.heap.size ≤ g
theorem Lv.hop {w2 wr wx : World} {o : Nat} {v : Value} {out : Am.Labs} (h : Lv w2 wr o v out) (hb : Below wr.heap.size wr wx) : Lv w2 wx o v out :=
  ⟨h.turn.trans (Turn.of_below hb), owns_below h.own hb, h.blk⟩
theorem Lv.grow {w2 wr w' : World} {o g cap H : Nat} {v : Value} {out : Am.Labs} {x : ByteArray} {n : Int} (h : Lv w2 wr o v out) (hg : wr.grownBy w' v.ownBlock)
    (ho : w'.ownsRow o 71 2 (.slice (some ⟨g, 0, none⟩) (out.length + 1) cap) (out.length + 1) (labCells out ++ [.string x, .int .i64 n])) (hat : v.ownBlock = some g ∨ g = H) (hH : wr.heap.size = H) : Lv w2 w' o (.slice (some ⟨g, 0, none⟩) (out.length + 1) cap) (out ++ [(x, n)]) := by
  refine ⟨⟨hg.os.trans h.turn.os, hg.tape.trans h.turn.tape, hg.output.trans h.turn.output, Nat.le_trans h.turn.size hg.size, fun k hk hn => (hg.block k (Nat.lt_of_lt_of_le hk h.turn.size) (fun e => ?_)).trans (h.turn.block k hk hn)⟩, OwnLb.snoc ho, fun j hj => ?_⟩
  · rcases h.blk k e.symm with e1 | e1
    · exact hn e1
    · omega
  · cases hj
    rcases hat with e | e
    · exact h.blk g e
    · right
      rw [e, ← hH]
      exact h.turn.size
set_option maxHeartbeats 2000000 in
theorem impl_lab_no (s : ByteArray) (R : List Int × Am.Labs × Int × Int) (w : World) (hc : R.2.2.1 ≠ 0) (HA : Hid (Calls Tryz.prog 28 #[.string s] w (AsmPost w R))) : Calls Tryz.prog 11 #[.string s] w (LabPost w []) := by
  have HC : Hid _ := hc
  clear hc
  go_enter Tryz.func11, Tryz.ntmps11
  go_wp2_with fail
  refine Calls.mono HA.out ?_
  rintro e w1 ⟨v, m, err, rfl, h1, -, hb⟩
  have herr := h1 HC.out
  subst herr
  have HB : Hid _ := hb
  clear h1 hb
  go_wp2
  go_ret
  exact ⟨_, rfl, own_nil w1 w.heap.size 71 2 HB.out.size, HB.out.alloc HB.out.size _⟩
set_option maxHeartbeats 4000000 in
theorem impl_lab_ok (s : ByteArray) (ws : List Int) (ls : Am.Labs) (w : World) (hl : ls.length ≤ 1048576) (HA : Hid (Calls Tryz.prog 28 #[.string s] w (AsmPost w (ws, ls, 0, 0)))) : Calls Tryz.prog 11 #[.string s] w (LabPost w (Am.srt ls)) := by
  obtain ⟨i9, hi9, hz9, hs9, hb9⟩ := infoLb'
  have HI : Hid _ := And.intro hi9 (And.intro hz9 (And.intro hs9 hb9))
  clear hi9 hz9 hs9 hb9
  have HL : Hid _ := hl
  clear hl
  go_enter Tryz.func11, Tryz.ntmps11
  go_wp2_with fail
  refine Calls.mono HA.out ?_
  rintro e w1 ⟨v, m, err, rfl, -, h2, hb⟩
  obtain ⟨rfl, -, mb, rfl, hmap, hgood⟩ := h2 rfl
  simp only at hmap hgood
  have HB : Hid _ := hb
  have HM : Hid _ := And.intro hmap hgood
  clear h2 hb hmap hgood
  have hb1 : Below w1.heap.size w1 (w1.alloc (.cells #[] 71)) := (Below.refl _ _).alloc (Nat.le_refl _) _
  have HS : Hid _ := sorted_any mb ls (w1.alloc (.cells #[] 71)) (HM.out.1.below hb1) HM.out.2 HL.out
  have hz1 : (w1.alloc (.cells #[] 71)).heap.size = w1.heap.size + 1 := by simp
  rw [hz1] at HS
  clear hb1
  go_wp2_with fail
  refine (keys_any _ _).mono ?_
  rintro e w2 ⟨rfl, rfl⟩
  rw [hz1]
  go_wp2_with fail
  refine Calls.mono HS.out ?_
  rintro e w2 ⟨a, cap, rfl, hnm, hnb, hb2⟩
  have hown0 : OwnLb w2 w1.heap.size (.slice (some ⟨w1.heap.size, 0, none⟩) 0 0) [] := by
    have h0 : (w2.heap[w1.heap.size]? = some (.cells #[] 71)) := by
      rw [hb2.block _ (by omega), Below.heap_alloc _ _ _ (by simp)]
      exact heap_alloc_new w1 _
    exact ⟨rfl, .inr ⟨w1.heap.size, 0, #[], rfl, Nat.le_refl _, h0, Nat.le_refl _, by simp, by simp, by simp [labCells]⟩⟩
  have hb3 : Below w1.heap.size w1 w2 := (((Below.refl _ w1).alloc (Nat.le_refl _) (.cells #[] 71)).alloc (by simp) (.cells #[.map (some mb)] 58)).trans (hb2.mono (by omega))
  have HV0 : Hid (Lv w2 w2 w1.heap.size (.slice (some ⟨w1.heap.size, 0, none⟩) 0 0) []) := ⟨Turn.refl _ _, hown0, fun g hg => by cases hg; exact .inl rfl⟩
  have HN : Hid (NmAt w2 a (Am.srt ls) ∧ ∀ bb off, a = some ⟨bb, off, none⟩ → bb ≠ w1.heap.size) := ⟨hnm, fun bb off e => by have := hnb bb off e; omega⟩
  have HM2 : Hid (LbMap w2 mb ls) := HM.out.1.below hb3
  have hmb : mb < w1.heap.size := by
    obtain ⟨es, ck, hh, r⟩ := HM.out.1
    exact (Array.getElem?_eq_some_iff.1 hh).1
  have HB2 : Hid (Below w.heap.size w w2) := HB.out.trans (hb3.mono HB.out.size)
  have hsz2 : w1.heap.size < w2.heap.size := World.ownsRow.lt hown0 _ rfl |>.2
  have hww : w.heap.size ≤ w1.heap.size := HB.out.size
  clear hnm hnb hb2 hown0 hb3
  obtain ⟨n, Hn⟩ : ∃ n, Hid (n = (Am.srt ls).length) := ⟨_, rfl⟩
  have hn : n ≤ 1048576 := by rw [Hn.out, (Am.srt_perm ls).length_eq]; exact HL.out
  rw [← Hn.out]
  go_wp2
  go_loopw [6, 23] (fun vo i wr => ∃ k : Nat, k ≤ n ∧ i = .int .i64 k ∧ Hid (Lv w2 wr w1.heap.size vo ((Am.srt ls).take k))) (fun _ i _ => n - (intOf i).toNat)
  case atStart => exact ⟨0, by omega, rfl, HV0.out⟩
  case round =>
    obtain ⟨k, hk, rfl, HR⟩ := hrel
    by_cases hlt : k < n
    · have hlt' : (k : Int) < (n : Int) := by omega
      have hkl : k < (Am.srt ls).length := by rw [← Hn.out]; exact hlt
      obtain ⟨nb, off, rfl, hnbl, hcells⟩ := HN.out.1 (by omega)
      have hne := HN.out.2 nb off rfl
      have hcell := (HR.out.turn.cell hnbl hne).trans (hcells k _ (List.getElem?_eq_getElem hkl))
      have hmem : (Am.srt ls)[k] ∈ ls := (Am.srt_perm ls).mem_iff.1 (List.getElem_mem hkl)
      have hsize := Good.sizes HM.out.2 _ hmem
      have hmw : LbMap wr mb ls := by
        obtain ⟨es, ck, hh, r⟩ := HM2.out
        exact ⟨es, ck, by rw [HR.out.turn.block mb (by omega) (by omega)]; exact hh, r⟩
      have hget := hmw.get HM.out.2 _ hmem hsize
      have HTK : Hid ((Am.srt ls).take (k + 1) = (Am.srt ls).take k ++ [(Am.srt ls)[k]]) := by
        show _ = _
        rw [List.take_add_one, List.getElem?_eq_getElem hkl]
        rfl
      have htl : ((Am.srt ls).take k).length = k := by simp; omega
      generalize (Am.srt ls)[k] = p at hcell hget HTK
      obtain ⟨x, z⟩ := p
      simp only at hcell hget
      clear hcells hmem hsize hmw
      obtain ⟨ao, co, hv, -⟩ := OwnLb.at HR.out.own
      rw [htl] at hv
      subst hv
      have HR4 : Hid _ := HR.out.hop ((Below.refl _ wr).alloc (Nat.le_refl _) (.cells #[.string x, .int .i64 z] 71))
      have hown := HR4.out.own
      unfold OwnLb at hown
      rw [htl] at hown
      have hwr : w2.heap.size ≤ wr.heap.size := HR.out.turn.size
      go_wp2_with (at_builtin; (refine wpList_append_lies _ rfl (.tmp 27) (.tmp 33) 31 rfl w1.heap.size 71 i9 (.agg #[.string ⟨#[]⟩, .int .i64 0]) 2 24 Tryz.underlying31 HI.out.1 HI.out.2.1 HI.out.2.2.1 HI.out.2.2.2 rfl (by omega) _ _ _ rfl hown _ 1 1 [.string x, .int .i64 z] rfl rfl (newsLbH _ _ _ _ (by simp)) (oneLb _ _) (by omega) (by unfold maxLen; omega) (by omega) (by simp; omega) _ rfl ?_; intro g cap1 w4 hown1 hgrow hat hlt1))
      go_wp2
      go_roundw
      case rel =>
        refine ⟨k + 1, by omega, by go_num, ?_⟩
        show Lv _ _ _ _ _
        rw [HTK.out]
        have hk2 := htl
        generalize (Am.srt ls).take k = out at hk2 hown1 HR4
        subst hk2
        exact HR4.out.grow hgrow hown1 hat (by simp)
      case measure => simp [intOf]; omega
    · obtain rfl : k = n := by omega
      have hf := HR.out
      rw [List.take_of_length_le (by rw [← Hn.out]; exact Nat.le_refl _)] at hf
      have HF : Hid _ := hf
      clear hf
      go_wp2
      go_ret
      exact ⟨_, rfl, own_base HF.out.own hww, HB2.out.trans (HF.out.turn.below hww HB2.out.size)⟩
theorem impl_labs (s : ByteArray) (w : World) (hs : s.size ≤ 1048576) (hM : TabM w) (hT : Tab w) (hTN : TabN w) : Calls Tryz.prog 11 #[.string s] w (LabPost w (Am.labs s)) := by
  have HA : Hid _ := impl_asm s w hs hM hT hTN
  have he := (Am.all_ends s).1
  have hl := Am.all_labs s hs
  unfold Am.labs
  generalize Am.all s = R at HA he hl
  obtain ⟨ws, ls, c, l⟩ := R
  simp only at he hl
  by_cases hc : c = 0
  · obtain rfl := he hc
    subst hc
    rw [if_pos rfl]
    exact impl_lab_ok s ws ls w hl HA
  · rw [if_neg hc]
    exact impl_lab_no s (ws, ls, c, l) w hc HA
end Go.Proofs.YtdjapcfejmhjnaaGreatDoor
namespace Go.Proofs.YtdjapcfejmhjnaaGreatDoor
open Go.ChangeShapes Go.WideShapes Go.ChangeAt Go.RowKit Go.Deep Go.Maps
set_option linter.unusedVariables false
set_option maxRecDepth 20000

def bv : Option Nat → Int
  | none => -1
  | some b => (b : Int)
theorem Lv.drew {w2 wr : World} {o : Nat} {v : Value} {out : Am.Labs} (h : Lv w2 wr o v out) (m : Nat) : Lv w2 (wr.drewN m) o v out := h.hop (below_drewN (Below.refl _ _) m)
/-- The labels as they lie: what a label's cells hold. -/
theorem LbAt.name {w : World} {a : Option Addr} {ls : Am.Labs} (h : LbAt w a ls) (j : Nat) (hj : j < ls.length) : ∃ b off, a = some ⟨b, off, none⟩ ∧ b < w.heap.size ∧ w.cell? ⟨b, off + j * 2, none⟩ = some (.string (Am.nmAt ls j)) ∧ w.cell? ⟨b, off + j * 2 + 1, none⟩ = some (.int .i64 (ls.getD j (⟨#[]⟩, 0)).2) := by
  obtain ⟨b, off, e, hb, hc⟩ := h (by omega)
  have := hc j ls[j] (List.getElem?_eq_getElem hj)
  refine ⟨b, off, e, hb, ?_, ?_⟩
  · unfold Am.nmAt; rw [Am.getD_lt hj]; exact this.1
  · rw [Am.getD_lt hj]; exact this.2
set_option maxHeartbeats 4000000 in
/-- One look of the inner loop: from the best behind i names to the best behind one more. -/
theorem spec_lab_ok (s : ByteArray) (ws : List Int) (ls : Am.Labs) (l : Int) (w : World) (hg : Am.Good ls) (hl : ls.length ≤ 1048576) (HA : Hid (Calls Tryz.prog 33 #[.string s] w (AllPost w (ws, ls, 0, l)))) : Calls Tryz.prog 14 #[.string s] w (LabPost w (Am.srt ls)) := by
  obtain ⟨i9, hi9, hz9, hs9, hb9⟩ := infoLb'
  have HI : Hid _ := And.intro hi9 (And.intro hz9 (And.intro hs9 hb9))
  clear hi9 hz9 hs9 hb9
  have HG : Hid _ := hg
  have HL : Hid _ := hl
  clear hg hl
  go_enter Tryz.func14, Tryz.ntmps14
  go_wp2_with fail
  refine Calls.mono HA.out ?_
  rintro e w1 ⟨vw, vl, rfl, -, hlb, hb⟩
  simp only at hlb
  obtain ⟨al, cl, rfl, hat0⟩ := OwnLb.at hlb
  have HB : Hid _ := hb
  have HAT : Hid _ := hat0
  have HLO : Hid (∀ b off, al = some ⟨b, off, none⟩ → 0 < ls.length → b < w1.heap.size) := fun b off e h0 => by
    obtain ⟨b', off', e', hlt, _⟩ := HAT.out h0
    rw [e] at e'
    injection e' with e'
    injection e' with e'
    omega
  have HB2 : Hid (Below w.heap.size w (w1.alloc (.cells #[] 71))) := HB.out.alloc HB.out.size _
  have HV0 : Hid (Lv (w1.alloc (.cells #[] 71)) (w1.alloc (.cells #[] 71)) w1.heap.size (.slice (some ⟨w1.heap.size, 0, none⟩) 0 0) []) :=
    ⟨Turn.refl _ _, own_nil w1 w1.heap.size 71 2 (Nat.le_refl _), fun g hg => by cases hg; exact .inl rfl⟩
  have HAT2 : Hid _ := LbAt.below HAT.out ((Below.refl _ w1).alloc (Nat.le_refl _) (.cells #[] 71))
  have hww : w.heap.size ≤ w1.heap.size := HB.out.size
  clear hlb hat0 hb
  obtain ⟨n, Hn⟩ : ∃ n, Hid (n = ls.length) := ⟨_, rfl⟩
  have hn : n ≤ 1048576 := by rw [Hn.out]; exact HL.out
  have HSL : Hid ((Am.srt ls).length = n) := by show _ = _; rw [(Am.srt_perm ls).length_eq, Hn.out]
  rw [← Hn.out]
  go_wp2
  generalize hw2 : w1.alloc (.cells #[] 71) = w2 at HB2 HV0 HAT2 ⊢
  have hsz2 : w1.heap.size < w2.heap.size := by rw [← hw2]; simp
  clear hw2
  go_loopw [7] (fun vo wr => ∃ k : Nat, k ≤ n ∧ (∃ ao co, vo = .slice ao k co) ∧ Hid (Lv w2 wr w1.heap.size vo ((Am.srt ls).take k))) (fun vo _ => match vo with | .slice _ k _ => n - k | _ => 0)
  case atStart => exact ⟨0, by omega, ⟨_, _, rfl⟩, HV0.out⟩
  case round =>
    obtain ⟨k, hk, ⟨ao, co, rfl⟩, HR⟩ := hrel
    by_cases hlt : k < n
    · have hlt' : (k : Int) < (n : Int) := by omega
      have HSK : Hid _ := Am.sel_ok HG.out k (by rw [HSL.out]; exact hlt)
      obtain ⟨last, HLA⟩ : ∃ last, Hid (Am.lastOf (Am.srt ls) k = last) := ⟨_, rfl⟩
      have HTL : Hid (((Am.srt ls).take k).length = k) := by show _ = _; rw [List.length_take, HSL.out]; omega
      -- the last label told, where there is one
      have HLC : Hid (∀ k', k = k' + 1 → ∃ ob, ao = some ⟨ob, 0, none⟩ ∧ ∃ y, last = some y ∧ wr.cell? ⟨ob, k' * 2, none⟩ = some (.string y)) := by
        intro k' e
        have hown := HR.out.own
        rcases hown.2 with ⟨h0, h1⟩ | ⟨g, cap, cur, hv, hbb, hgh, h1, h2, h3, h4⟩
        · rw [HTL.out] at h1; omega
        · rw [HTL.out] at hv
          cases hv
          have hat := OwnLb.at hown
          obtain ⟨a', c', hv', hla⟩ := hat
          rw [HTL.out] at hv'
          cases hv'
          obtain ⟨b', off', e', _, hnm, _⟩ := hla.name k' (by rw [HTL.out]; omega)
          cases e'
          refine ⟨g, rfl, Am.nmAt (Am.srt ls) k', ?_, ?_⟩
          · rw [← HLA.out, e]; rfl
          · rw [Nat.zero_add] at hnm
            rw [hnm]
            have : Am.nmAt ((Am.srt ls).take k) k' = Am.nmAt (Am.srt ls) k' := by
              unfold Am.nmAt
              rw [Am.getD_lt (by rw [HTL.out]; omega), Am.getD_lt (by rw [HSL.out]; omega)]
              simp
            rw [this]
      rw [HLA.out] at HSK
      have hlw : w2.heap.size ≤ wr.heap.size := HR.out.turn.size
      go_wp2
      go_loopw [8, 9] (fun b j wi => ∃ (i m : Nat), i ≤ n ∧ j = .int .i64 i ∧ ∃ q, b = .int .i64 (bv q) ∧ Hid (Am.sel ls last i = q) ∧ wi = wr.drewN m) (fun _ j _ => n - (intOf j).toNat)
      case atStart => exact ⟨0, 0, by omega, rfl, none, rfl, rfl, rfl⟩
      case round =>
        obtain ⟨i, m, hi, rfl, q, rfl, HQ, rfl⟩ := hrel
        by_cases hit : i < n
        · have hit' : (i : Int) < (n : Int) := by omega
          have hil : i < ls.length := by rw [← Hn.out]; exact hit
          have HST : Hid (Am.sel ls last (i + 1) = if (Am.el last (Am.nmAt ls i) && Am.bt (q.map (Am.nmAt ls)) (Am.nmAt ls i)) = true then some i else q) := by
            show _ = _
            rw [Am.sel, HQ.out]
          obtain ⟨lb, lo, rfl, hlb2, hcx0, -⟩ := LbAt.name (w := w2) HAT2.out i hil
          have hlbw : lb < w1.heap.size := HLO.out lb lo rfl (by omega)
          have hcx := (HR.out.turn.cell hlb2 (by omega)).trans hcx0
          clear hcx0
          have hqb : ∀ b, q = some b → b < i := fun b e => ((Am.sel_inv ls last i).2 b (by rw [HQ.out, e])).1
          have HBC : Hid (∀ b, q = some b → wr.cell? ⟨lb, lo + b * 2, none⟩ = some (.string (Am.nmAt ls b))) := fun b e => by
            have hbl : b < ls.length := by have := hqb b e; omega
            obtain ⟨b', o', e', h1, h2, -⟩ := LbAt.name (w := w2) HAT2.out b hbl
            cases e'
            exact (HR.out.turn.cell h1 (by omega)).trans h2
          generalize Am.nmAt ls i = x at hcx HST
          cases k with
          | zero =>
            obtain rfl : last = none := HLA.out.symm
            have hk0 : (((0 : Nat) : Int) == 0) = true := rfl
            have HEL : Hid (Am.el none x = true) := rfl
            cases q with
            | none =>
              have hbn : ((-1 : Int) < 0) := by omega
              have hbv : bv none = -1 := rfl
              rw [hbv]
              go_wp2
              go_quiet (fail)
              go_wp2
              go_roundw
              case rel => exact ⟨i + 1, _, by omega, by go_num, some i, rfl, by show _ = _; rw [HST.out]; rw [HEL.out]; rfl, rfl⟩
              case measure => simp [intOf]; omega
            | some b =>
              have hbi := hqb b rfl
              have hcb := HBC.out b rfl
              have hbv : bv (some b) = (b : Int) := rfl
              rw [hbv]
              have hbp : decide ((b : Int) < 0) = false := decide_eq_false (by omega)
              have hbl' : (b : Int) < (n : Int) := by omega
              have HBT : Hid (Am.bt ((some b).map (Am.nmAt ls)) x = Op.bytesLess x.toList (Am.nmAt ls b).toList) := rfl
              generalize Am.nmAt ls b = xb at hcb HBT
              cases hlss : Op.bytesLess x.toList xb.toList with
              | true =>
                go_wp2
                go_quiet (fail)
                go_wp2
                go_roundw
                case rel => exact ⟨i + 1, _, by omega, by go_num, some i, rfl, by show _ = _; rw [HST.out]; rw [HEL.out, HBT.out, hlss]; rfl, rfl⟩
                case measure => simp [intOf]; omega
              | false =>
                go_wp2
                go_quiet (fail)
                go_wp2
                go_roundw
                case rel => exact ⟨i + 1, _, by omega, by go_num, some b, rfl, by show _ = _; rw [HST.out]; rw [HEL.out, HBT.out, hlss]; rfl, rfl⟩
                case measure => simp [intOf]; omega
          | succ k =>
            obtain ⟨ob, rfl, y, rfl, hcy⟩ := HLC.out k rfl
            have hk0 : (((k : Int) + 1) == 0) = false := by simp; omega
            have HEY : Hid (Am.el (some y) x = !(Op.bytesLess x.toList y.toList || x.toList == y.toList)) := rfl
            have hkw : IntKind.i64.wrap (k : Int) = (k : Int) := by rw [IntKind.wrap_i64]; omega
            cases hl1 : Op.bytesLess x.toList y.toList with
            | true =>
              have HEL : Hid (Am.el (some y) x = false) := by show _ = _; rw [HEY.out, hl1]; rfl
              go_wp2
              go_quiet (fail)
              go_wp2
              go_roundw
              case rel => exact ⟨i + 1, _, by omega, by go_num, q, rfl, by show _ = _; rw [HST.out]; rw [HEL.out]; rfl, rfl⟩
              case measure => simp [intOf]; omega
            | false =>
              cases hl2 : (x.toList == y.toList) with
              | true =>
                have HEL : Hid (Am.el (some y) x = false) := by show _ = _; rw [HEY.out, hl1, hl2]; rfl
                go_wp2
                go_quiet (fail)
                go_wp2
                go_roundw
                case rel => exact ⟨i + 1, _, by omega, by go_num, q, rfl, by show _ = _; rw [HST.out]; rw [HEL.out]; rfl, rfl⟩
                case measure => simp [intOf]; omega
              | false =>
                have HEL : Hid (Am.el (some y) x = true) := by show _ = _; rw [HEY.out, hl1, hl2]; rfl
                cases q with
                | none =>
                  have hbn : ((-1 : Int) < 0) := by omega
                  have hbv : bv none = -1 := rfl
                  rw [hbv]
                  go_wp2
                  go_quiet (fail)
                  go_wp2
                  go_roundw
                  case rel => exact ⟨i + 1, _, by omega, by go_num, some i, rfl, by show _ = _; rw [HST.out]; rw [HEL.out]; rfl, rfl⟩
                  case measure => simp [intOf]; omega
                | some b =>
                  have hbi := hqb b rfl
                  have hcb := HBC.out b rfl
                  have hbv : bv (some b) = (b : Int) := rfl
                  rw [hbv]
                  have hbp : decide ((b : Int) < 0) = false := decide_eq_false (by omega)
                  have hbl' : (b : Int) < (n : Int) := by omega
                  have HBT : Hid (Am.bt ((some b).map (Am.nmAt ls)) x = Op.bytesLess x.toList (Am.nmAt ls b).toList) := rfl
                  generalize Am.nmAt ls b = xb at hcb HBT
                  cases hlss : Op.bytesLess x.toList xb.toList with
                  | true =>
                    go_wp2
                    go_quiet (fail)
                    go_wp2
                    go_roundw
                    case rel => exact ⟨i + 1, _, by omega, by go_num, some i, rfl, by show _ = _; rw [HST.out]; rw [HEL.out, HBT.out, hlss]; rfl, rfl⟩
                    case measure => simp [intOf]; omega
                  | false =>
                    go_wp2
                    go_quiet (fail)
                    go_wp2
                    go_roundw
                    case rel => exact ⟨i + 1, _, by omega, by go_num, some b, rfl, by show _ = _; rw [HST.out]; rw [HEL.out, HBT.out, hlss]; rfl, rfl⟩
                    case measure => simp [intOf]; omega
        · have hin : i = n := by omega
          obtain ⟨j, hj, hsel, hget⟩ := HSK.out
          have hqj : q = some j := by rw [← HQ.out, hin, Hn.out]; exact hsel
          subst hqj
          subst hin
          have hkl : k < (Am.srt ls).length := by rw [HSL.out]; exact hlt
          have HTK : Hid ((Am.srt ls).take (k + 1) = (Am.srt ls).take k ++ [ls.getD j (⟨#[]⟩, 0)]) := by
            show _ = _
            rw [List.take_add_one, List.getElem?_eq_getElem hkl, hget, Am.getD_lt hkl]
            rfl
          obtain ⟨lb, lo, rfl, hlb2, hcx0, hcz0⟩ := LbAt.name (w := w2) HAT2.out j hj
          have hlbw : lb < w1.heap.size := HLO.out lb lo rfl (by omega)
          have hcx := (HR.out.turn.cell hlb2 (by omega)).trans hcx0
          have hcz := (HR.out.turn.cell hlb2 (by omega)).trans hcz0
          have hji : j < i := by rw [Hn.out]; exact hj
          have hbv : bv (some j) = (j : Int) := rfl
          rw [hbv]
          clear hcx0 hcz0 hget hsel
          unfold Am.nmAt at hcx
          generalize ls.getD j (⟨#[]⟩, 0) = p at hcx hcz HTK
          obtain ⟨x, z⟩ := p
          simp only at hcx hcz
          have HR4 : Hid _ := (HR.out.drew m).hop ((Below.refl _ (wr.drewN m)).alloc (Nat.le_refl _) (.cells #[.string x, .int .i64 z] 71))
          have hown := HR4.out.own
          unfold OwnLb at hown
          rw [HTL.out] at hown
          go_wp2_with (at_builtin; (refine wpList_append_lies _ rfl (.tmp 68) (.tmp 73) 31 rfl w1.heap.size 71 i9 (.agg #[.string ⟨#[]⟩, .int .i64 0]) 2 24 Tryz.underlying31 HI.out.1 HI.out.2.1 HI.out.2.2.1 HI.out.2.2.2 rfl (by omega) _ _ _ rfl hown _ 1 1 [.string x, .int .i64 z] rfl rfl (newsLbH _ _ _ _ (by simp)) (oneLb _ _) (by omega) (by unfold maxLen; omega) (by omega) (by simp; omega) _ rfl ?_; intro g cap1 w4 hown1 hgrow hat hlt1))
          go_wp2
          go_roundw
          case rel =>
            refine ⟨k + 1, by omega, ⟨_, _, rfl⟩, ?_⟩
            show Lv _ _ _ _ _
            rw [HTK.out]
            have hk2 := HTL.out
            generalize (Am.srt ls).take k = out at hk2 hown1 HR4
            subst hk2
            exact HR4.out.grow hgrow hown1 hat (by simp)
          case measure => simp only; omega
    · obtain rfl : k = n := by omega
      have hf := HR.out
      rw [List.take_of_length_le (by rw [HSL.out]; exact Nat.le_refl _)] at hf
      have HF : Hid _ := hf
      clear hf
      go_wp2
      go_ret
      exact ⟨_, rfl, own_base HF.out.own hww, HB2.out.trans (HF.out.turn.below hww HB2.out.size)⟩
end Go.Proofs.YtdjapcfejmhjnaaGreatDoor
namespace Go.Proofs.YtdjapcfejmhjnaaGreatDoor
open Go.ChangeShapes Go.WideShapes Go.ChangeAt Go.RowKit Go.Deep Go.Maps
set_option linter.unusedVariables false
set_option maxRecDepth 20000

/-- The digits of a mark, ahead of what stands there already. -/
def mgo (j : Nat) (out : ByteArray) : ByteArray := if h : j = 0 then out else mgo (j / 10) (strOfNums [48 + (j : Int) % 10] ++ out)
  termination_by j
  decreasing_by omega
/-- The text of a mark. -/
def mtx (k : Nat) : ByteArray := (⟨#[109]⟩ : ByteArray) ++ mgo k ⟨#[]⟩
theorem nums_one (x : Int) : (strOfNums [x]).size = 1 := rfl
set_option maxHeartbeats 1000000 in
theorem mark_text (K : Nat) (w : World) (h1 : 1 ≤ K) (h2 : K ≤ 1000000000) :
    Calls Tryz.prog 35 #[.int .i64 K] w fun e w' => e = .returned (.string (mtx K)) ∧ Below w.heap.size w w' := by
  have hK : ¬ (K : Int) ≤ 0 := by omega
  go_enter Tryz.func35, Tryz.ntmps35
  go_wp2
  go_loopw [0, 3] (fun a o wr => ∃ (j d : Nat) (out : ByteArray), a = .int .i64 j ∧ o = .string out ∧ j ≤ 1000000000 ∧ j < 10 ^ d ∧ out.size + d ≤ 20 ∧ Hid (mgo j out = mgo K ⟨#[]⟩) ∧ Hid (Below w.heap.size w wr)) (fun a _ _ => (intOf a).toNat)
  case atStart => exact ⟨K, 20, _, rfl, rfl, h2, by omega, by decide, rfl, Below.refl _ _⟩
  case round =>
    obtain ⟨j, d, out, rfl, rfl, hj, hd, hs, HM, HB⟩ := hrel
    by_cases hz : j = 0
    · subst hz
      have HE : Hid (out = mgo K ⟨#[]⟩) := by
        have h := HM.out
        rw [mgo, dif_pos rfl] at h
        exact h
      have hsz : out.size ≤ 20 := by omega
      go_wp2
      go_ret
      refine ⟨?_, HB.out⟩
      unfold mtx
      rw [← HE.out]
      rfl
    · have hjp : (0 : Int) < (j : Int) := by omega
      have hd1 : 1 ≤ d := by
        rcases Nat.lt_or_ge 0 d with h | h
        · exact h
        · have : d = 0 := by omega
          subst this
          omega
      have hcv := run_convert_bytes_arg (P := Tryz.prog) (wr.alloc (.cells #[.int .u8 (48 + (j : Int) % 10)] 5)) 22 5 Tryz.underlying22 Tryz.underlying5 wr.heap.size 0 1 1 [48 + (j : Int) % 10] rfl (fun i hi => by
        have : i = 0 := by omega
        subst this
        simp) 9 Tryz.underlying9
      have HST : Hid (mgo (j / 10) (strOfNums [48 + (j : Int) % 10] ++ out) = mgo K ⟨#[]⟩) := by
        have h := HM.out
        rw [mgo, dif_neg hz] at h
        exact h
      have h1s := nums_one (48 + (j : Int) % 10)
      have HB2 : Hid (Below w.heap.size w (wr.alloc (.cells #[.int .u8 (48 + (j : Int) % 10)] 5))) := HB.out.alloc HB.out.size _
      have hsz : out.size ≤ 20 := by omega
      have hd10 : j / 10 < 10 ^ (d - 1) := by
        obtain ⟨d', rfl⟩ : ∃ d', d = d' + 1 := ⟨d - 1, by omega⟩
        rw [Nat.pow_succ] at hd
        simp only [Nat.add_sub_cancel]
        omega
      generalize strOfNums [48 + (j : Int) % 10] = t at hcv HST h1s
      go_wp2
      go_roundw
      case rel => exact ⟨j / 10, d - 1, _, by go_num, rfl, by omega, hd10, by rw [ByteArray.size_append]; omega, HST, HB2⟩
      case measure => simp [intOf]; omega
/-! ### Two labels, two lists of labels -/
set_option maxHeartbeats 1000000 in
theorem eq_label (x : ByteArray) (z : Int) (w : World) : Calls Tryz.prog 34 #[.agg #[.string x, .int .i64 z], .agg #[.string x, .int .i64 z]] w fun e w' => e = .returned (.bool true) ∧ Below w.heap.size w w' := by
  have hxx : (x.toList == x.toList) = true := by simp
  go_enter Tryz.func34, Tryz.ntmps34
  go_wp2
  go_ret
  exact ⟨rfl, ((Below.refl _ _).alloc (Nat.le_refl _) _).alloc (by simp) _⟩
theorem kept_cell {w w' : World} {p : Addr} {v : Value} (hb : Below w.heap.size w w') (h : w.cell? p = some v) : w'.cell? p = some v := (hb.cell (World.block_lt_of_cell? w _ h)).trans h
set_option maxHeartbeats 2000000 in
theorem eq_labels (a b : Option Addr) (ca cb : Nat) (ls : Am.Labs) (w : World) (ha : LbAt w a ls) (hb : LbAt w b ls) (hn : ls.length ≤ 1048576) :
    Calls Tryz.prog 15 #[.slice a ls.length ca, .slice b ls.length cb] w fun e w' => e = .returned (.bool true) ∧ Below w.heap.size w w' := by
  obtain ⟨n, Hn⟩ : ∃ n, Hid (n = ls.length) := ⟨_, rfl⟩
  have hn' : n ≤ 1048576 := by rw [Hn.out]; exact hn
  have HA : Hid _ := And.intro ha hb
  rw [← Hn.out]
  clear hn ha hb
  go_enter Tryz.func15, Tryz.ntmps15
  go_wp2
  go_loopw [5] (fun i wr => ∃ k : Nat, k ≤ n ∧ i = .int .i64 k ∧ Hid (Below w.heap.size w wr)) (fun i _ => n - (intOf i).toNat)
  case atStart => exact ⟨0, by omega, rfl, Below.refl _ _⟩
  case round =>
    obtain ⟨k, hk, rfl, HB⟩ := hrel
    by_cases hlt : k < n
    · have hlt' : (k : Int) < (n : Int) := by omega
      have hl : k < ls.length := by rw [← Hn.out]; exact hlt
      obtain ⟨b1, o1, rfl, hbl1, c1, d1⟩ := LbAt.name (w := w) HA.out.1 k hl
      obtain ⟨b2, o2, rfl, hbl2, c2, d2⟩ := LbAt.name (w := w) HA.out.2 k hl
      have hb := HB.out
      replace c1 := (hb.cell (p := ⟨b1, o1 + k * 2, none⟩) hbl1).trans c1
      replace d1 := (hb.cell (p := ⟨b1, o1 + k * 2 + 1, none⟩) hbl1).trans d1
      replace c2 := (hb.cell (p := ⟨b2, o2 + k * 2, none⟩) hbl2).trans c2
      replace d2 := (hb.cell (p := ⟨b2, o2 + k * 2 + 1, none⟩) hbl2).trans d2
      unfold Am.nmAt at c1 c2
      generalize ls.getD k (⟨#[]⟩, 0) = p at c1 d1 c2 d2
      obtain ⟨x, z⟩ := p
      simp only at c1 d1 c2 d2
      clear hl hbl1 hbl2 HB
      go_wp2
      go_region_held3 (fun w' => w'.cell? ⟨b1, o1 + k * 2, none⟩ = some (.string x) ∧ w'.cell? ⟨b1, o1 + k * 2 + 1, none⟩ = some (.int .i64 z) ∧ w'.cell? ⟨b2, o2 + k * 2, none⟩ = some (.string x) ∧ w'.cell? ⟨b2, o2 + k * 2 + 1, none⟩ = some (.int .i64 z)) (first | exact ⟨c1, d1, c2, d2⟩) (first | (go_at_call 34; refine Calls.mono (eq_label x z _) ?_; rintro u w9 ⟨rfl, hbb⟩; (first | replace hb := hb.trans (hbb.mono hb.size) | replace hb := hb.drew.trans (hbb.mono hb.drew.size)); replace c1 := kept_cell hbb c1; replace d1 := kept_cell hbb d1; replace c2 := kept_cell hbb c2; replace d2 := kept_cell hbb d2; clear hbb))
      go_wp2
      go_roundw
      case rel => exact ⟨k + 1, by omega, by go_num, hb⟩
      case measure => simp [intOf]; omega
    · go_wp2
      go_ret
      exact ⟨rfl, HB.out⟩
/-- Labels that lie in a block of the call's own. -/
def OwnAtL (w : World) (base : Nat) (a : Option Addr) (ls : Am.Labs) : Prop :=
  0 < ls.length → ∃ B, a = some ⟨B, 0, none⟩ ∧ base ≤ B ∧ B < w.heap.size ∧ (∀ i, i < ls.length → w.cell? ⟨B, i * 2, none⟩ = some (.string (ls.getD i (⟨#[]⟩, 0)).1) ∧ w.cell? ⟨B, i * 2 + 1, none⟩ = some (.int .i64 (ls.getD i (⟨#[]⟩, 0)).2)) ∧ ∀ j, w.frozen? ⟨B, j, none⟩ = false
theorem OwnLb.mark {w : World} {base : Nat} {v : Value} {ls : Am.Labs} (h : OwnLb w base v ls) : ∃ a cap, v = .slice a ls.length cap ∧ OwnAtL w base a ls ∧ LbAt w a ls ∧ ∀ b off, a = some ⟨b, off, none⟩ → b < w.heap.size := by
  obtain ⟨a, cap, hv, hat⟩ := OwnLb.at h
  refine ⟨a, cap, hv, fun h0 => ?_, hat, fun b off e => ?_⟩
  · rcases h.2 with ⟨h1, h2⟩ | ⟨g, cap', cur, hv', hb, hg, r⟩
    · omega
    · rw [hv] at hv'
      cases hv'
      obtain ⟨b', off', e', hlt, _⟩ := hat h0
      cases e'
      refine ⟨g, rfl, hb, hlt, fun i hi => ?_, fun j => by simp [World.frozen?, hg]⟩
      obtain ⟨b2, o2, e2, _, c1, c2⟩ := LbAt.name (w := w) hat i hi
      cases e2
      rw [Nat.zero_add] at c1 c2
      exact ⟨c1, c2⟩
  · rcases h.2 with ⟨h1, h2⟩ | ⟨g, cap', cur, hv', hb, hg, r⟩
    · rw [hv] at h1
      injection h1 with e1 e2 e3
      rw [e1] at e
      cases e
    · rw [hv] at hv'
      injection hv' with e1 e2 e3
      rw [e1] at e
      injection e with e
      injection e with e4 e5 e6
      rw [← e4]
      rcases Nat.lt_or_ge g w.heap.size with hlt | hge
      · exact hlt
      · rw [Array.getElem?_eq_none hge] at hg; cases hg
theorem OwnAtL.below {w w' : World} {base : Nat} {a : Option Addr} {ls : Am.Labs} (h : OwnAtL w base a ls) (hb : Below w.heap.size w w') : OwnAtL w' base a ls := fun h0 => by
  obtain ⟨B, e, h1, hlt, hc, hf⟩ := h h0
  exact ⟨B, e, h1, Nat.lt_of_lt_of_le hlt hb.size, fun i hi => ⟨(hb.cell (p := ⟨B, i * 2, none⟩) hlt).trans (hc i hi).1, (hb.cell (p := ⟨B, i * 2 + 1, none⟩) hlt).trans (hc i hi).2⟩, fun j => (hb.frozen (p := ⟨B, j, none⟩) hlt).trans (hf j)⟩
theorem LbAt.low {w w' : World} {a : Option Addr} {ls : Am.Labs} {C : Nat} (h : LbAt w a ls) (hlow : ∀ b off, a = some ⟨b, off, none⟩ → b < C) (hb : Below C w w') : LbAt w' a ls := fun h0 => by
  obtain ⟨b, off, e, hlt, hc⟩ := h h0
  exact ⟨b, off, e, Nat.lt_of_lt_of_le hlt hb.size, fun i p hi => ⟨(hb.cell (p := ⟨b, off + i * 2, none⟩) (hlow b off e)).trans (hc i p hi).1, (hb.cell (p := ⟨b, off + i * 2 + 1, none⟩) (hlow b off e)).trans (hc i p hi).2⟩⟩
def marksL (k n : Nat) : Am.Labs := (List.range n).map fun i => (mtx (k + 2 * i), ((k + 2 * i + 1 : Nat) : Int))
theorem marksL_len (k n : Nat) : (marksL k n).length = n := by simp [marksL]
theorem marksL_at (k n i : Nat) (hi : i < n) : (marksL k n).getD i (⟨#[]⟩, 0) = (mtx (k + 2 * i), ((k + 2 * i + 1 : Nat) : Int)) := by simp [marksL, List.getD, hi]
set_option maxHeartbeats 2000000 in
theorem mark_labels (base cap k : Nat) (a : Option Addr) (ls : Am.Labs) (w : World) (ho : OwnAtL w base a ls) (hbs : base ≤ w.heap.size) (hn : ls.length ≤ 1048576) (hk0 : 1 ≤ k) (hk1 : k ≤ 1000) :
    Calls Tryz.prog 16 #[.slice a ls.length cap, .int .i64 k] w fun e w' => e = .returned (.int .i64 ((k + 2 * ls.length : Nat) : Int)) ∧ Below base w w' ∧ OwnAtL w' base a (marksL k ls.length) := by
  obtain ⟨n, Hn⟩ : ∃ n, Hid (n = ls.length) := ⟨_, rfl⟩
  have hn' : n ≤ 1048576 := by rw [Hn.out]; exact hn
  rw [← Hn.out]
  clear hn
  by_cases h0 : n = 0
  · subst h0
    go_enter Tryz.func16, Tryz.ntmps16
    go_wp2
    refine wp_loop_rounds 1 ?_
    rw [rounds_succ]
    go_wp2
    go_ret
    exact ⟨ret_int (by simp), Below.refl _ _, fun h => absurd h (by simp [marksL])⟩
  · obtain ⟨B, rfl, hB, hlt, hc, hf⟩ := ho (by rw [← Hn.out]; omega)
    have HC : Hid (∀ i, i < n → (∃ u, w.cell? ⟨B, i * 2, none⟩ = some u) ∧ ∃ u, w.cell? ⟨B, i * 2 + 1, none⟩ = some u) := fun i hi => ⟨⟨_, (hc i (by rw [← Hn.out]; exact hi)).1⟩, ⟨_, (hc i (by rw [← Hn.out]; exact hi)).2⟩⟩
    have HF : Hid (∀ j, w.frozen? ⟨B, j, none⟩ = false) := hf
    clear hc ho hf
    go_enter Tryz.func16, Tryz.ntmps16
    go_wp2
    go_loopw [1, 5] (fun t i wr => ∃ m : Nat, m ≤ n ∧ i = .int .i64 m ∧ t = .int .i64 ((k + 2 * m : Nat) : Int) ∧ B < wr.heap.size ∧ Hid (Below base w wr ∧ (∀ j, wr.frozen? ⟨B, j, none⟩ = false) ∧ (∀ i, i < n → (∃ u, wr.cell? ⟨B, i * 2, none⟩ = some u) ∧ ∃ u, wr.cell? ⟨B, i * 2 + 1, none⟩ = some u) ∧ ∀ i, i < m → wr.cell? ⟨B, i * 2, none⟩ = some (.string (mtx (k + 2 * i))) ∧ wr.cell? ⟨B, i * 2 + 1, none⟩ = some (.int .i64 ((k + 2 * i + 1 : Nat) : Int)))) (fun _ i _ => n - (intOf i).toNat)
    case atStart => exact ⟨0, by omega, rfl, by go_num, hlt, ⟨Below.refl _ _, HF.out, HC.out, fun i hi => absurd hi (by omega)⟩⟩
    case round =>
      obtain ⟨m, hm, rfl, rfl, hBw, HR⟩ := hrel
      by_cases hmn : m < n
      · have hmn' : (m : Int) < (n : Int) := by omega
        have HMT : Hid (∀ X, Calls Tryz.prog 35 #[.int .i64 ((k + 2 * m : Nat) : Int)] X fun e w' => e = .returned (.string (mtx (k + 2 * m))) ∧ Below X.heap.size X w') := fun X => mark_text (k + 2 * m) X (by omega) (by omega)
        obtain ⟨t, HTX⟩ : ∃ t, Hid (mtx (k + 2 * m) = t) := ⟨_, rfl⟩
        rw [HTX.out] at HMT
        obtain ⟨K, HK⟩ : ∃ K, Hid (K = k + 2 * m) := ⟨_, rfl⟩
        have hK : K ≤ 1000000000 := by rw [HK.out]; omega
        rw [← HK.out] at HMT ⊢
        go_wp2_with fail
        refine (HMT.out _).mono ?_
        rintro u w2 ⟨rfl, hbb⟩
        have hB2 : B < w2.heap.size := Nat.lt_of_lt_of_le hBw hbb.size
        have hfz : ∀ j, w2.frozen? ⟨B, j, none⟩ = false := fun j => (hbb.frozen (p := ⟨B, j, none⟩) hBw).trans (HR.out.2.1 j)
        obtain ⟨⟨u1, hu1⟩, ⟨u2, hu2⟩⟩ := HR.out.2.2.1 m hmn
        have hc1 : w2.cell? ⟨B, m * 2, none⟩ = some u1 := (hbb.cell (p := ⟨B, m * 2, none⟩) hBw).trans hu1
        have hc2 : w2.cell? ⟨B, m * 2 + 1, none⟩ = some u2 := (hbb.cell (p := ⟨B, m * 2 + 1, none⟩) hBw).trans hu2
        have hc3 : (w2.setCell ⟨B, m * 2, none⟩ (.string t)).cell? ⟨B, m * 2 + 1, none⟩ = some u2 := by rw [World.cell?_setCell_other _ _ _ _ (by simp)]; exact hc2
        have hfz2 : ∀ j, (w2.setCell ⟨B, m * 2, none⟩ (.string t)).frozen? ⟨B, j, none⟩ = false := fun j => by rw [World.frozen?_setCell]; exact hfz j
        have HR2 : Hid (∀ z : Int, z = ((k + 2 * m + 1 : Nat) : Int) → Below base w ((w2.setCell ⟨B, m * 2, none⟩ (.string t)).setCell ⟨B, m * 2 + 1, none⟩ (.int .i64 z)) ∧ (∀ j, ((w2.setCell ⟨B, m * 2, none⟩ (.string t)).setCell ⟨B, m * 2 + 1, none⟩ (.int .i64 z)).frozen? ⟨B, j, none⟩ = false) ∧ (∀ i, i < n → (∃ u, ((w2.setCell ⟨B, m * 2, none⟩ (.string t)).setCell ⟨B, m * 2 + 1, none⟩ (.int .i64 z)).cell? ⟨B, i * 2, none⟩ = some u) ∧ ∃ u, ((w2.setCell ⟨B, m * 2, none⟩ (.string t)).setCell ⟨B, m * 2 + 1, none⟩ (.int .i64 z)).cell? ⟨B, i * 2 + 1, none⟩ = some u) ∧ ∀ i, i < m + 1 → ((w2.setCell ⟨B, m * 2, none⟩ (.string t)).setCell ⟨B, m * 2 + 1, none⟩ (.int .i64 z)).cell? ⟨B, i * 2, none⟩ = some (.string (mtx (k + 2 * i))) ∧ ((w2.setCell ⟨B, m * 2, none⟩ (.string t)).setCell ⟨B, m * 2 + 1, none⟩ (.int .i64 z)).cell? ⟨B, i * 2 + 1, none⟩ = some (.int .i64 ((k + 2 * i + 1 : Nat) : Int))) := by
          intro z hz
          have far : ∀ (q : Nat), q ≠ m * 2 → q ≠ m * 2 + 1 → ((w2.setCell ⟨B, m * 2, none⟩ (.string t)).setCell ⟨B, m * 2 + 1, none⟩ (.int .i64 z)).cell? ⟨B, q, none⟩ = wr.cell? ⟨B, q, none⟩ := fun q h1 h2 => by
            rw [World.cell?_setCell_other _ _ _ _ (by intro c; injection c with c1 c2 c3; omega), World.cell?_setCell_other _ _ _ _ (by intro c; injection c with c1 c2 c3; omega)]
            exact hbb.cell (p := ⟨B, q, none⟩) hBw
          have at1 : ((w2.setCell ⟨B, m * 2, none⟩ (.string t)).setCell ⟨B, m * 2 + 1, none⟩ (.int .i64 z)).cell? ⟨B, m * 2, none⟩ = some (.string t) := by
            rw [World.cell?_setCell_other _ _ _ _ (by simp)]
            exact World.cell?_setCell_same _ _ _ hc1
          have at2 : ((w2.setCell ⟨B, m * 2, none⟩ (.string t)).setCell ⟨B, m * 2 + 1, none⟩ (.int .i64 z)).cell? ⟨B, m * 2 + 1, none⟩ = some (.int .i64 z) := World.cell?_setCell_same _ _ _ hc3
          have hbw : Below base w w2 := HR.out.1.trans (hbb.mono (Nat.le_trans hbs HR.out.1.size))
          refine ⟨(hbw.setCell (p := ⟨B, m * 2, none⟩) hB _).setCell (p := ⟨B, m * 2 + 1, none⟩) hB _, fun j => by rw [World.frozen?_setCell]; exact hfz2 j, fun i hi => ?_, fun i hi => ?_⟩
          · by_cases e : i = m
            · subst e; exact ⟨⟨_, at1⟩, ⟨_, at2⟩⟩
            · rw [far (i * 2) (by omega) (by omega), far (i * 2 + 1) (by omega) (by omega)]
              exact HR.out.2.2.1 i hi
          · by_cases e : i = m
            · subst e
              exact ⟨by rw [at1, HTX.out], by rw [at2, hz]⟩
            · rw [far (i * 2) (by omega) (by omega), far (i * 2 + 1) (by omega) (by omega)]
              exact HR.out.2.2.2 i (by omega)
        clear hbb HR hu1 hu2 HMT
        go_wp2
        go_roundw
        case rel => exact ⟨m + 1, by omega, by go_num, by rw [HK.out]; go_num, by simpa using hB2, HR2.out _ (by rw [HK.out]; omega)⟩
        case measure => simp [intOf]; omega
      · obtain rfl : m = n := by omega
        go_wp2
        go_ret
        obtain ⟨hb, hff, hcc, hmm⟩ := HR.out
        refine ⟨rfl, hb, fun _ => ⟨B, rfl, hB, hBw, fun i hi => ?_, hff⟩⟩
        rw [marksL_len] at hi
        rw [marksL_at k m i hi]
        exact hmm i hi
set_option maxHeartbeats 2000000 in
theorem held_labels (a : Option Addr) (cap n k base : Nat) (w : World) (ho : OwnAtL w base a (marksL k n)) (hn : n ≤ 1048576) (hk0 : 1 ≤ k) (hk1 : k ≤ 1000) :
    Calls Tryz.prog 17 #[.slice a n cap, .int .i64 k] w fun e w' => e = .returned (.int .i64 ((k + 2 * n : Nat) : Int)) ∧ Below w.heap.size w w' := by
  have HO : Hid _ := ho
  clear ho
  go_enter Tryz.func17, Tryz.ntmps17
  go_wp2
  go_loopw [1, 5] (fun t i wr => ∃ m : Nat, m ≤ n ∧ i = .int .i64 m ∧ t = .int .i64 ((k + 2 * m : Nat) : Int) ∧ Hid (Below w.heap.size w wr)) (fun _ i _ => n - (intOf i).toNat)
  case atStart => exact ⟨0, by omega, rfl, by go_num, Below.refl _ _⟩
  case round =>
    obtain ⟨m, hm, rfl, rfl, HB⟩ := hrel
    by_cases hmn : m < n
    · have hmn' : (m : Int) < (n : Int) := by omega
      obtain ⟨B, rfl, -, hlt, hc, -⟩ := HO.out (by rw [marksL_len]; omega)
      obtain ⟨c1, c2⟩ := hc m (by rw [marksL_len]; exact hmn)
      rw [marksL_at k n m hmn] at c1 c2
      simp only at c1 c2
      have hb := HB.out
      replace c1 := (hb.cell (p := ⟨B, m * 2, none⟩) hlt).trans c1
      replace c2 := (hb.cell (p := ⟨B, m * 2 + 1, none⟩) hlt).trans c2
      have HMT : Hid (∀ X, Calls Tryz.prog 35 #[.int .i64 ((k + 2 * m : Nat) : Int)] X fun e w' => e = .returned (.string (mtx (k + 2 * m))) ∧ Below X.heap.size X w') := fun X => mark_text (k + 2 * m) X (by omega) (by omega)
      generalize mtx (k + 2 * m) = t at HMT c1
      obtain ⟨K, HK⟩ : ∃ K, Hid (K = k + 2 * m) := ⟨_, rfl⟩
      have hK : K ≤ 1000000000 := by rw [HK.out]; omega
      rw [← HK.out] at HMT c2 ⊢
      have htt : (t.toList == t.toList) = true := by simp
      clear hc HB
      go_wp2
      go_region_held3 (fun w' => w'.cell? ⟨B, m * 2, none⟩ = some (.string t) ∧ w'.cell? ⟨B, m * 2 + 1, none⟩ = some (.int .i64 ((K + 1 : Nat) : Int))) (first | exact ⟨c1, c2⟩) (first | (go_at_call 35; refine Calls.mono (HMT.out _) ?_; rintro u w9 ⟨rfl, hbb⟩; (first | replace hb := hb.trans (hbb.mono hb.size) | replace hb := hb.drew.trans (hbb.mono hb.drew.size)); replace c1 := kept_cell hbb c1; replace c2 := kept_cell hbb c2; clear hbb))
      go_wp2
      go_roundw
      case rel => exact ⟨m + 1, by omega, by go_num, by rw [HK.out]; go_num, hb⟩
      case measure => simp [intOf]; omega
    · obtain rfl : m = n := by omega
      go_wp2
      go_ret
      exact ⟨rfl, HB.out⟩
end Go.Proofs.YtdjapcfejmhjnaaGreatDoor
namespace Go.Proofs.YtdjapcfejmhjnaaGreatDoor
open Go.ChangeShapes Go.WideShapes Go.ChangeAt Go.RowKit Go.Deep Go.Maps
set_option linter.unusedVariables false
set_option maxRecDepth 20000

namespace Am
theorem scan_good : ∀ (l : List Rl.A8) (k n : Nat) (ls : Labs), Good ls → n ≤ 256 → (∀ a ∈ l, a.lab.size ≤ 1048576) → Good (scan l k n ls).2.2
  | [], _, _, ls, h, _, _ => h
  | a :: l, k, n, ls, h, hn, hl => by
    rw [scan]
    split
    · exact h
    · split
      · split
        · exact h
        · rename_i hf
          exact scan_good l _ _ _ (Good.snoc h (by omega) (hl a (by simp)) (by omega) (by omega)) hn (fun b hb => hl b (by simp [hb]))
      · split
        · exact h
        · exact scan_good l _ _ _ h (by omega) (fun b hb => hl b (by simp [hb]))
theorem all_good (s : ByteArray) (hs : s.size ≤ 1048576) : Good (all s).2.1 := by
  have hfit : ∀ a ∈ (Ln.pieces s).map Rl.line, a.lab.size ≤ 1048576 := by
    intro x hx
    obtain ⟨y, hy, rfl⟩ := List.mem_map.1 hx
    have h1 := Ln.pieces_short s y hy
    have h2 := (Rl.line_fit y).lab
    omega
  have hg := scan_good ((Ln.pieces s).map Rl.line) 0 0 [] Good.nil (by omega) hfit
  unfold all
  split
  · simp only
    split <;> exact hg
  · exact Good.nil
end Am
set_option maxHeartbeats 1000000 in
theorem spec_lab_no (s : ByteArray) (ws : List Int) (ls : Am.Labs) (c l : Int) (w : World) (hc : c ≠ 0) (HA : Hid (Calls Tryz.prog 33 #[.string s] w (AllPost w (ws, ls, c, l)))) : Calls Tryz.prog 14 #[.string s] w (LabPost w []) := by
  have hc' : (c != 0) = true := by simpa using hc
  clear hc
  go_enter Tryz.func14, Tryz.ntmps14
  go_wp2_with fail
  refine Calls.mono HA.out ?_
  rintro e w1 ⟨vw, vl, rfl, -, -, hb⟩
  have HB : Hid _ := hb
  clear hb
  simp only
  go_wp2
  go_ret
  exact ⟨_, rfl, own_nil w1 w.heap.size 71 2 HB.out.size, HB.out.alloc HB.out.size _⟩
theorem spec_labs (s : ByteArray) (w : World) (hs : s.size ≤ 1048576) : Calls Tryz.prog 14 #[.string s] w (LabPost w (Am.labs s)) := by
  have HA : Hid _ := spec_all s w hs
  have hl := Am.all_labs s hs
  have hg := Am.all_good s hs
  unfold Am.labs
  generalize Am.all s = R at HA hl hg
  obtain ⟨ws, ls, c, l⟩ := R
  simp only at hl hg
  by_cases hc : c = 0
  · subst hc
    rw [if_pos rfl]
    exact spec_lab_ok s ws ls l w hg hl HA
  · rw [if_neg hc]
    exact spec_lab_no s ws ls c l w hc HA
theorem Am.labs_len (s : ByteArray) (hs : s.size ≤ 1048576) : (Am.labs s).length ≤ 1048576 := by
  unfold Am.labs
  split
  · rw [(Am.srt_perm _).length_eq]; exact Am.all_labs s hs
  · simp
set_option maxHeartbeats 2000000 in
theorem labs_law (s : ByteArray) (w : World) (hM : TabM w) (hT : Tab w) (hTN : TabN w) : Calls Tryz.prog 5 #[.string s] w fun e w' => e = .returned (.bool true) ∧ Below w.heap.size w w' := by
  by_cases hs : s.size ≤ 1048576
  rotate_left
  · have hs' : (1048576 : Int) < (s.size : Int) := by omega
    clear hM hT hTN
    go_enter Tryz.func5, Tryz.ntmps5
    go_wp2
    go_ret
    exact ⟨rfl, Below.refl _ _⟩
  have hs' : ¬ (1048576 : Int) < (s.size : Int) := by omega
  have HL : Hid _ := Am.labs_len s hs
  have HSP : Hid (∀ X, Calls Tryz.prog 14 #[.string s] X (LabPost X (Am.labs s))) := fun X => spec_labs s X hs
  have HIM : Hid (∀ X, TabM X → Tab X → TabN X → Calls Tryz.prog 11 #[.string s] X (LabPost X (Am.labs s))) := fun X h1 h2 h3 => impl_labs s X hs h1 h2 h3
  have HT : Hid _ := And.intro hM (And.intro hT hTN)
  generalize Am.labs s = ls at HL HSP HIM
  clear hM hT hTN hs
  obtain ⟨n, HN⟩ : ∃ n, Hid (n = ls.length) := ⟨_, rfl⟩
  have hn : n ≤ 1048576 := by rw [HN.out]; exact HL.out
  have HEQ : Hid (∀ (b1 b0 : Option Addr) (c1 c0 : Nat) (X : World), LbAt X b1 ls → LbAt X b0 ls → Calls Tryz.prog 15 #[.slice b1 n c1, .slice b0 n c0] X fun e w' => e = .returned (.bool true) ∧ Below X.heap.size X w') := fun b1 b0 c1 c0 X h1 h0 => by
    rw [HN.out]; exact eq_labels b1 b0 c1 c0 ls X h1 h0 HL.out
  have HMK : Hid (∀ (base cap : Nat) (a : Option Addr) (X : World), OwnAtL X base a ls → base ≤ X.heap.size → Calls Tryz.prog 16 #[.slice a n cap, .int .i64 1] X fun e w' => e = .returned (.int .i64 ((1 + 2 * n : Nat) : Int)) ∧ Below base X w' ∧ OwnAtL w' base a (marksL 1 n)) := fun base cap a X h1 h2 => by
    rw [HN.out]; exact mark_labels base cap 1 a ls X h1 h2 HL.out (by omega) (by omega)
  have HHD : Hid (∀ (base cap : Nat) (a : Option Addr) (X : World), OwnAtL X base a (marksL 1 n) → Calls Tryz.prog 17 #[.slice a n cap, .int .i64 1] X fun e w' => e = .returned (.int .i64 ((1 + 2 * n : Nat) : Int)) ∧ Below X.heap.size X w') := fun base cap a X h1 =>
    held_labels a cap n 1 base X h1 hn (by omega) (by omega)
  go_enter Tryz.func5, Tryz.ntmps5
  go_wp2_with fail
  refine (HSP.out _).mono ?_
  rintro e w1 ⟨v0, rfl, hown0, hb1⟩
  obtain ⟨a0, cap0, rfl, -, hat0, hlow0⟩ := OwnLb.mark hown0
  rw [← HN.out]
  have H1 : Hid _ := And.intro hat0 (And.intro hlow0 hb1)
  clear hown0 hat0 hlow0 hb1
  go_wp2_with fail
  refine (HIM.out _ (TabM.below HT.out.1 H1.out.2.2) (Tab.below HT.out.2.1 H1.out.2.2) (TabN.below HT.out.2.2 H1.out.2.2)).mono ?_
  rintro e w2 ⟨g0, rfl, hown1, hb2⟩
  obtain ⟨a1, cap1, rfl, hoa1, hat1, -⟩ := OwnLb.mark hown1
  rw [← HN.out]
  have H2 : Hid _ := And.intro (LbAt.below H1.out.1 hb2) (And.intro hat1 (And.intro hoa1 (H1.out.2.2.trans (hb2.mono H1.out.2.2.size))))
  have hsz12 : w1.heap.size ≤ w2.heap.size := hb2.size
  clear hown1 hat1 hoa1 hb2
  go_wp2_with fail
  refine (HEQ.out a1 a0 cap1 cap0 _ H2.out.2.1 H2.out.1).mono ?_
  rintro e w3 ⟨rfl, hb3⟩
  have H3 : Hid _ := And.intro (LbAt.below H2.out.1 hb3) (And.intro (H2.out.2.2.1.below hb3) (H2.out.2.2.2.trans (hb3.mono H2.out.2.2.2.size)))
  have hsz13 : w1.heap.size ≤ w3.heap.size := Nat.le_trans hsz12 hb3.size
  clear hb3
  go_wp2_with fail
  refine (HMK.out w1.heap.size cap1 a1 _ H3.out.2.1 hsz13).mono ?_
  rintro e w4 ⟨rfl, hb4, hoa4⟩
  have H4 : Hid (LbAt w4 a0 ls ∧ OwnAtL w4 w1.heap.size a1 (marksL 1 n) ∧ Below w.heap.size w w4) := ⟨LbAt.low H3.out.1 H1.out.2.1 hb4, hoa4, H3.out.2.2.trans (hb4.mono H1.out.2.2.size)⟩
  clear hb4 hoa4
  go_wp2_with fail
  refine (HHD.out w1.heap.size cap1 a1 _ H4.out.2.1).mono ?_
  rintro e w5 ⟨rfl, hb5⟩
  have H5 : Hid _ := And.intro (LbAt.below H4.out.1 hb5) (And.intro (H4.out.2.1.below hb5) (H4.out.2.2.trans (hb5.mono H4.out.2.2.size)))
  clear hb5
  go_wp2_with fail
  refine (HIM.out _ (TabM.below HT.out.1 H5.out.2.2) (Tab.below HT.out.2.1 H5.out.2.2) (TabN.below HT.out.2.2 H5.out.2.2)).mono ?_
  rintro e w6 ⟨h0, rfl, hown6, hb6⟩
  obtain ⟨a6, cap6, rfl, -, hat6, -⟩ := OwnLb.mark hown6
  rw [← HN.out]
  have H6 : Hid _ := And.intro (LbAt.below H5.out.1 hb6) (And.intro hat6 (And.intro (H5.out.2.1.below hb6) (H5.out.2.2.trans (hb6.mono H5.out.2.2.size))))
  clear hown6 hat6 hb6
  go_wp2_with fail
  refine (HEQ.out a6 a0 cap6 cap0 _ H6.out.2.1 H6.out.1).mono ?_
  rintro e w7 ⟨rfl, hb7⟩
  have H7 : Hid _ := And.intro (H6.out.2.2.1.below hb7) (H6.out.2.2.2.trans (hb7.mono H6.out.2.2.2.size))
  clear hb7
  go_wp2_with fail
  refine (HHD.out w1.heap.size cap1 a1 _ H7.out.1).mono ?_
  rintro e w8 ⟨rfl, hb8⟩
  have H8 : Hid _ := H7.out.2.trans (hb8.mono H7.out.2.size)
  clear hb8
  go_wp2
  go_ret
  exact ⟨rfl, H8.out⟩
end Go.Proofs.YtdjapcfejmhjnaaGreatDoor
