/-
  The text of a list of words: what Disassemble returns, the specification's and the program's own. Conditions: the tables lie in memory as their texts lay them; the list reads as words and is at most 1048576 long.
-/
import Derived.Test.YtdjapcfejmhjnaaDoorWord
import Derived.Test.YtdjapcfejmhjnaaDoorBld
import Derived.Test.YtdjapcfejmhjnaaDoorBstr
import Derived.Test.YtdjapcfejmhjnaaDoorSlices
namespace Go.Proofs.YtdjapcfejmhjnaaDoor
open Go.ChangeShapes Go.WideShapes Go.ChangeAt Go.RowKit
set_option linter.unusedVariables false
set_option maxRecDepth 20000

namespace Dz
/-- The text of words, a line each. -/
def text : List Int → ByteArray
  | [] => ⟨#[]⟩
  | x :: l => wordLine x ++ ⟨#[10]⟩ ++ text l
theorem text_snoc : ∀ (l : List Int) (x : Int), text (l ++ [x]) = text l ++ (wordLine x ++ ⟨#[10]⟩)
  | [], x => by
    show wordLine x ++ ⟨#[10]⟩ ++ ⟨#[]⟩ = ⟨#[]⟩ ++ (wordLine x ++ ⟨#[10]⟩)
    apply ByteArray.ext
    simp
  | y :: l, x => by
    show wordLine y ++ ⟨#[10]⟩ ++ text (l ++ [x]) = wordLine y ++ ⟨#[10]⟩ ++ text l ++ _
    rw [text_snoc l x]
    simp only [ByteArray.append_assoc]
theorem nm_all (k : Nat) : (nm k).size ≤ 5 := by
  by_cases h : k < 33
  · exact Sh.nm_size ⟨k, h⟩
  · have : names.getD k [] = [] := by simp [List.getD, names, h]
    unfold nm
    rw [this]
    decide
theorem rT_size (q : Bool) (x : Int) : (Sh.rT q x).size ≤ 23 := by
  unfold Sh.rT
  split
  · have := Sh.dect_size x
    rw [Sh.app_size, show (⟨#[32, 114]⟩ : ByteArray).size = 2 from rfl]
    omega
  · decide
theorem mT_size (q : Bool) (x : Int) : (Sh.mT q x).size ≤ 22 := by
  unfold Sh.mT
  split
  · have := Sh.dect_size x
    rw [Sh.app_size, show (⟨#[32]⟩ : ByteArray).size = 1 from rfl]
    omega
  · decide
theorem line_size (op a b c m : Int) : (lineOf op a b c m).size ≤ 96 := by
  unfold lineOf Sh.line
  simp only [Sh.app_size]
  have := nm_all op.toNat
  have h1 := rT_size (forms.getD op.toNat 0 % 2 == 1) a
  have h2 := rT_size (forms.getD op.toNat 0 / 2 % 2 == 1) b
  have h3 := rT_size (forms.getD op.toNat 0 / 4 % 2 == 1) c
  have h4 := mT_size (forms.getD op.toNat 0 / 8 % 2 == 1) m
  omega
theorem word_size (x : Int) : (wordLine x).size ≤ 96 := by
  unfold wordLine
  split
  · exact line_size _ _ _ _ _
  · have := Sh.dect_size x
    unfold dotWord
    rw [Sh.app_size, show (⟨#[46, 119, 111, 114, 100, 32]⟩ : ByteArray).size = 6 from rfl]
    omega
theorem text_size : ∀ l : List Int, (text l).size ≤ 97 * l.length
  | [] => by decide
  | x :: l => by
    have := text_size l
    have h := word_size x
    show (wordLine x ++ ⟨#[10]⟩ ++ text l).size ≤ _
    rw [Sh.app_size, Sh.app_size, show (⟨#[10]⟩ : ByteArray).size = 1 from rfl, List.length_cons]
    omega
theorem text_take (zs : List Int) (k : Nat) (h : k < zs.length) : text (zs.take (k + 1)) = text (zs.take k) ++ (wordLine (zs.getD k 0) ++ ⟨#[10]⟩) := by
  rw [take_getD zs k h, text_snoc]
end Dz
theorem isBuilder_below {T e : TypeId} {B b : Nat} {bs : List Value} {w w' : World} (h : Lib.IsBuilder T e B b bs w) (hb : Below w.heap.size w w') : Lib.IsBuilder T e B b bs w' := by
  have hk : ∀ k o, w.heap[k]? = some o → w'.heap[k]? = some o := fun k o ho => by
    have hlt : k < w.heap.size := by
      rcases Nat.lt_or_ge k w.heap.size with h' | h'
      · exact h'
      · rw [Array.getElem?_eq_none h'] at ho
        cases ho
    rw [hb.block k hlt]
    exact ho
  have one : ∀ p, Lib.BuilderAt T e B b p bs w → Lib.BuilderAt T e B b p bs w' := fun p ⟨hB, v, hbk, hown, hne⟩ => by
    refine ⟨hB, v, hk _ _ hbk, ⟨hown.1, ?_⟩, hne⟩
    rcases hown.2 with h0 | ⟨g, cap, cur, hv, hg, hh, r⟩
    · exact .inl h0
    · exact .inr ⟨g, cap, cur, hv, hg, hk _ _ hh, r⟩
  rcases h with h | h
  · exact .inl (one _ h)
  · exact .inr (one _ h)
/-- The numbers are words. -/
def Words (zs : List Int) : Prop := ∀ n ∈ zs, (Lit.int .u32 n).wf = true
theorem Words.at {zs : List Int} (h : Words zs) (k : Nat) (hk : k < zs.length) : 0 ≤ zs.getD k 0 ∧ zs.getD k 0 ≤ 4294967295 := bounds_u32 (h _ (getD_mem zs k hk))
set_option maxHeartbeats 400000 in
theorem spec_dis_long (a : Option Addr) (n cap : Nat) (w : World) (h : 256 < n) (hn : n ≤ 1048576) :
    Calls Tryd.prog 30 #[.slice a n cap] w fun e w' => e = .returned (.tuple #[.string ⟨#[]⟩, .bool false]) ∧ Below w.heap.size w w' := by
  go_enter Tryd.func30, Tryd.ntmps30
  go_wp2
  go_ret2
  exact ⟨rfl, Below.refl _ _⟩
set_option maxHeartbeats 400000 in
theorem impl_dis_long (a : Option Addr) (n cap : Nat) (w : World) (h : 256 < n) (hn : n ≤ 1048576) :
    Calls Tryd.prog 32 #[.slice a n cap] w fun e w' => e = .returned (.tuple #[.string ⟨#[]⟩, .bool false]) ∧ Below w.heap.size w w' := by
  go_enter Tryd.func32, Tryd.ntmps32
  go_wp2
  go_ret2
  exact ⟨rfl, Below.refl _ _⟩
theorem ret_txt {a b : ByteArray} {c : Bool} (h : a = b) : Ending.returned (.tuple #[.string a, .bool c]) = .returned (.tuple #[.string b, .bool c]) := by rw [h]
set_option maxHeartbeats 1000000 in
theorem spec_dis (a : Option Addr) (cap n : Nat) (zs : List Int) (w : World) (hs : Seg .u32 w a zs) (hw : Words zs) (Hn : Hid (n = zs.length)) (h : n ≤ 256) :
    Calls Tryd.prog 30 #[.slice a n cap] w fun e w' => e = .returned (.tuple #[.string (Dz.text zs), .bool true]) ∧ Below w.heap.size w w' := by
  have Hw : Hid _ := hw
  have Hs : Hid _ := hs
  clear hw hs
  go_enter Tryd.func30, Tryd.ntmps30
  go_wp2
  go_loopw [4, 5] (fun t i wr => ∃ (k : Nat) (s : ByteArray), k ≤ n ∧ i = .int .i64 k ∧ t = .string s ∧ s.size ≤ 97 * k ∧ Below w.heap.size w wr ∧ Hid (s = Dz.text (zs.take k))) (fun _ i _ => n - (intOf i).toNat)
  case atStart => exact ⟨0, ⟨#[]⟩, by omega, rfl, rfl, by decide, Below.refl _ _, rfl⟩
  case round =>
    obtain ⟨k, s, hk, rfl, rfl, hss, hb, HS⟩ := hrel
    by_cases hlt : k < n
    · have hl : k < zs.length := by rw [← Hn.out]; exact hlt
      obtain ⟨b, off, rfl, hbl, hc⟩ := Seg.at (Seg.below Hs.out hb) k hl
      obtain ⟨hx0, hx1⟩ := Words.at Hw.out k hl
      have HT : Hid (s ++ wordLine (zs.getD k 0) ++ ⟨#[10]⟩ = Dz.text (zs.take (k + 1))) := by
        show _ = _
        rw [Dz.text_take zs k hl, HS.out, ByteArray.append_assoc]
      have hsz := Dz.word_size (zs.getD k 0)
      generalize zs.getD k 0 = x at hc hx0 hx1 HT hsz
      clear hl
      go_wp2_with fail
      refine (spec_sw x _ hx0 hx1).mono ?_
      rintro e w2 ⟨rfl, hb2⟩
      have hbb := hb.trans (hb2.mono hb.size)
      generalize wordLine x = L at HT hsz
      clear hc hb2
      go_wp2
      go_roundw
      case rel => exact ⟨k + 1, _, by omega, by go_num, rfl, by rw [Sh.app_size, Sh.app_size, show (⟨#[10]⟩ : ByteArray).size = 1 from rfl]; omega, hbb, HT⟩
      case measure => simp [intOf]; omega
    · have HE : Hid (s = Dz.text zs) := by
        show _ = _
        rw [HS.out, List.take_of_length_le (by rw [← Hn.out]; omega)]
      go_wp2
      go_ret2
      exact ⟨ret_txt HE.out, hb⟩
set_option maxHeartbeats 1000000 in
theorem impl_dis (a : Option Addr) (cap n : Nat) (zs : List Int) (w : World) (hT : Tabs w) (hs : Seg .u32 w a zs) (hw : Words zs) (Hn : Hid (n = zs.length)) (h : n ≤ 256) :
    Calls Tryd.prog 32 #[.slice a n cap] w fun e w' => e = .returned (.tuple #[.string (Dz.text zs), .bool true]) ∧ Below w.heap.size w w' := by
  have Hw : Hid _ := hw
  have Hs : Hid _ := hs
  have HT : Hid _ := hT
  clear hw hs hT
  have HB0 : Hid _ := Lib.fresh_isBuilder 93 5 w
  go_enter Tryd.func32, Tryd.ntmps32
  go_wp2
  go_loopw [6, 12] (fun r i wr => ∃ (k : Nat), k ≤ n ∧ i = .int .i64 k ∧ Below w.heap.size w wr ∧ w.heap.size ≤ wr.heap.size ∧ Hid (Lib.IsBuilder 93 5 w.heap.size w.heap.size (Lib.byteCells (Dz.text (zs.take k)).data.toList) wr)) (fun _ i _ => n - (intOf i).toNat)
  case atStart => exact ⟨0, by omega, rfl, (Below.refl _ _).alloc (Nat.le_refl _) _, by simp, HB0⟩
  case round =>
    obtain ⟨k, hk, rfl, hb, hsz0, HB⟩ := hrel
    by_cases hlt : k < n
    · have hl : k < zs.length := by rw [← Hn.out]; exact hlt
      obtain ⟨b, off, rfl, hbl, hc⟩ := Seg.at (Seg.below Hs.out hb) k hl
      obtain ⟨hx0, hx1⟩ := Words.at Hw.out k hl
      have HX : Hid (Dz.text (zs.take (k + 1)) = Dz.text (zs.take k) ++ (wordLine (zs.getD k 0) ++ ⟨#[10]⟩)) := Dz.text_take zs k hl
      have hsz := Dz.word_size (zs.getD k 0)
      have hts := Dz.text_size (zs.take k)
      rw [List.length_take] at hts
      generalize zs.getD k 0 = x at hc hx0 hx1 HX hsz
      clear hl
      go_wp2_with fail
      refine (impl_sw x _ (Tabs.below HT.out hb) hx0 hx1).mono ?_
      rintro e w2 ⟨rfl, hb2⟩
      have HB2 : Hid _ := isBuilder_below HB.out hb2
      have hbb := hb.trans (hb2.mono hb.size)
      have hszz := hbb.size
      generalize wordLine x = L at HX hsz
      clear hc hb2
      go_wp2_with fail
      refine (write_str w.heap.size w.heap.size _ _ _ HB2.out (by
        rw [Lib.byteCells_length, show (Dz.text (zs.take k)).data.toList.length = (Dz.text (zs.take k)).size from rfl, Sh.app_size, show (⟨#[10]⟩ : ByteArray).size = 1 from rfl]
        omega) hszz).mono ?_
      rintro e w3 ⟨rfl, hbd, hb3⟩
      have HB3 : Hid (Lib.IsBuilder 93 5 w.heap.size w.heap.size (Lib.byteCells (Dz.text (zs.take (k + 1))).data.toList) w3) := by
        rw [HX.out]
        refine .inr ?_
        have e : Lib.byteCells (Dz.text (zs.take k) ++ (L ++ ⟨#[10]⟩)).data.toList = Lib.byteCells (Dz.text (zs.take k)).data.toList ++ Lib.strCells (L ++ ⟨#[10]⟩) := by
          rw [Lib.strCells_eq]
          simp [Lib.byteCells]
        rw [e]
        exact hbd
      have hb4 := hbb.trans hb3
      have hs4 := hb4.size
      clear hbd
      go_wp2
      go_roundw
      case rel => exact ⟨k + 1, by omega, by go_num, hb4, hs4, HB3⟩
      case measure => simp [intOf]; omega
    · have HE : Hid (Dz.text (zs.take k) = Dz.text zs) := by
        show _ = _
        rw [List.take_of_length_le (by rw [← Hn.out]; omega)]
      go_wp2_with fail
      refine (Tryd.Builder_String_any w.heap.size w.heap.size _ _ HB.out hsz0).mono ?_
      rintro e w2 ⟨rfl, hb2⟩
      have hbb := hb.trans hb2
      have HE2 : Hid ((⟨(Dz.text (zs.take k)).data.toList.toArray⟩ : ByteArray) = Dz.text zs) := by
        show _ = _
        rw [HE.out]
      generalize (⟨(Dz.text (zs.take k)).data.toList.toArray⟩ : ByteArray) = t at HE2
      go_wp2
      go_ret2
      exact ⟨ret_txt HE2.out, hbb⟩
end Go.Proofs.YtdjapcfejmhjnaaDoor
