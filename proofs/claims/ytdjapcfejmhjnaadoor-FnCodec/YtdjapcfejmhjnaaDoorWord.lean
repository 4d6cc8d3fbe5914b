/-
  The line of a word: what ShowWord returns, the specification's and the program's own. Conditions: the program's tables of forms and names and the library's table of powers of ten lie in memory as their texts lay them.
-/
import Derived.Test.YtdjapcfejmhjnaaDoorShow
import Derived.Test.YtdjapcfejmhjnaaDoorDcd
namespace Go.Proofs.YtdjapcfejmhjnaaDoor
open Go.ChangeShapes Go.WideShapes Go.ChangeAt Go.RowKit
set_option linter.unusedVariables false
set_option maxRecDepth 20000

/-- The tables lie as their texts lay them. -/
def Tabs (w : World) : Prop := Tab w ∧ TabN w ∧ TabP w
theorem Tabs.below {w w' : World} (h : Tabs w) (hb : Below w.heap.size w w') : Tabs w' := ⟨h.1.below hb, h.2.1.below hb, h.2.2.below hb⟩
theorem Below.hop {w w1 w2 : World} (h1 : Below w.heap.size w w1) (h2 : Below w1.heap.size w1 w2) : Below w.heap.size w w2 := h1.trans (h2.mono h1.size)
abbrev wOk (x : Int) : Bool := instrOk (x / 67108864) (x / 4194304 % 16) (x / 262144 % 16) (x / 16384 % 16) (sx (x % 16384))
def dotWord (x : Int) : ByteArray := ⟨#[46, 119, 111, 114, 100, 32]⟩ ++ Tx.txt (Dc.dect x)
/-- The line of a word. -/
def wordLine (x : Int) : ByteArray := if wOk x = true then lineOf (x / 67108864) (x / 4194304 % 16) (x / 262144 % 16) (x / 16384 % 16) (sx (x % 16384)) else dotWord x
set_option maxHeartbeats 400000 in
theorem impl_sw_yes (x op a b c m : Int) (T : ByteArray) (HTT : Hid (lineOf op a b c m = T)) (w : World) (hT : Tabs w) (h : instrOk op a b c m = true)
    (HD : Hid (Calls Tryd.prog 16 #[.int .u32 x] w fun e w' => e = .returned (.tuple #[ins op a b c m, .bool true]) ∧ Below w.heap.size w w')) :
    Calls Tryd.prog 15 #[.int .u32 x] w fun e w' => e = .returned (.string T) ∧ Below w.heap.size w w' := by
  have HT : Hid _ := hT
  have HQ : Hid _ := h
  clear hT h
  go_enter Tryd.func15, Tryd.ntmps15
  go_wp2_with fail
  refine Calls.mono HD.out ?_
  rintro e w1 ⟨rfl, hb1⟩
  have hb2 := hb1.alloc hb1.size (row op a b c m)
  have ht2 := Tabs.below HT.out hb2
  have HT2 : Hid _ := ht2
  clear ht2
  go_wp2_with fail
  refine (impl_show op a b c m _ HT2.out.1 HT2.out.2.1 HT2.out.2.2 HQ.out).mono ?_
  rintro e w3 ⟨rfl, hb3⟩
  have hb4 := Below.hop hb2 hb3
  rw [HTT.out]
  go_wp2
  go_ret
  exact ⟨rfl, hb4⟩
set_option maxHeartbeats 400000 in
theorem spec_sw_yes (x op a b c m : Int) (T : ByteArray) (HTT : Hid (lineOf op a b c m = T)) (w : World) (h : instrOk op a b c m = true)
    (HD : Hid (Calls Tryd.prog 59 #[.int .u32 x] w fun e w' => e = .returned (.tuple #[ins op a b c m, .bool true]) ∧ Below w.heap.size w w')) :
    Calls Tryd.prog 29 #[.int .u32 x] w fun e w' => e = .returned (.string T) ∧ Below w.heap.size w w' := by
  have HQ : Hid _ := h
  clear h
  go_enter Tryd.func29, Tryd.ntmps29
  go_wp2_with fail
  refine Calls.mono HD.out ?_
  rintro e w1 ⟨rfl, hb1⟩
  have hb2 := hb1.alloc hb1.size (row op a b c m)
  go_wp2_with fail
  refine (spec_show op a b c m _ HQ.out).mono ?_
  rintro e w3 ⟨rfl, hb3⟩
  have hb4 := Below.hop hb2 hb3
  rw [HTT.out]
  go_wp2
  go_ret
  exact ⟨rfl, hb4⟩
set_option maxHeartbeats 400000 in
theorem impl_sw_no (x : Int) (w : World) (hT : Tabs w) (h0 : 0 ≤ x) (h1 : x ≤ 4294967295)
    (HD : Hid (Calls Tryd.prog 16 #[.int .u32 x] w fun e w' => e = .returned (.tuple #[ins 0 0 0 0 0, .bool false]) ∧ Below w.heap.size w w')) :
    Calls Tryd.prog 15 #[.int .u32 x] w fun e w' => e = .returned (.string (dotWord x)) ∧ Below w.heap.size w w' := by
  have HT : Hid _ := hT
  clear hT
  have hd := Sh.dect_size x
  go_enter Tryd.func15, Tryd.ntmps15
  go_wp2_with fail
  refine Calls.mono HD.out ?_
  rintro e w1 ⟨rfl, hb1⟩
  have hb2 := hb1.alloc hb1.size (row 0 0 0 0 0)
  have ht2 := Tabs.below HT.out hb2
  have HT2 : Hid _ := ht2
  clear ht2
  go_wp2_with fail
  refine (impl_text x _ (by omega) (by omega) HT2.out.2.2).mono ?_
  rintro e w3 ⟨rfl, hb3⟩
  have hb4 := Below.hop hb2 hb3
  have HE : Hid (⟨#[46, 119, 111, 114, 100, 32]⟩ ++ Tx.txt (Dc.dect x) = dotWord x) := rfl
  generalize Tx.txt (Dc.dect x) = d at hd HE
  go_wp2
  go_ret
  exact ⟨ret_str HE.out, hb4⟩
set_option maxHeartbeats 400000 in
theorem spec_sw_no (x : Int) (w : World) (h0 : 0 ≤ x) (h1 : x ≤ 4294967295)
    (HD : Hid (Calls Tryd.prog 59 #[.int .u32 x] w fun e w' => e = .returned (.tuple #[ins 0 0 0 0 0, .bool false]) ∧ Below w.heap.size w w')) :
    Calls Tryd.prog 29 #[.int .u32 x] w fun e w' => e = .returned (.string (dotWord x)) ∧ Below w.heap.size w w' := by
  have hd := Sh.dect_size x
  go_enter Tryd.func29, Tryd.ntmps29
  go_wp2_with fail
  refine Calls.mono HD.out ?_
  rintro e w1 ⟨rfl, hb1⟩
  have hb2 := hb1.alloc hb1.size (row 0 0 0 0 0)
  go_wp2_with fail
  refine (spec_text x _ (by omega) (by omega)).mono ?_
  rintro e w3 ⟨rfl, rfl⟩
  have HE : Hid (⟨#[46, 119, 111, 114, 100, 32]⟩ ++ Tx.txt (Dc.dect x) = dotWord x) := rfl
  generalize Tx.txt (Dc.dect x) = d at hd HE
  go_wp2
  go_ret
  exact ⟨ret_str HE.out, hb2⟩
theorem impl_sw (x : Int) (w : World) (hT : Tabs w) (h0 : 0 ≤ x) (h1 : x ≤ 4294967295) :
    Calls Tryd.prog 15 #[.int .u32 x] w fun e w' => e = .returned (.string (wordLine x)) ∧ Below w.heap.size w w' := by
  unfold wordLine
  by_cases h : wOk x = true
  · rw [if_pos h]
    exact impl_sw_yes x _ _ _ _ _ _ rfl w hT h (impl_dec x true w hT.1 h0 h1 h)
  · rw [if_neg h]
    exact impl_sw_no x w hT h0 h1 (impl_dec x false w hT.1 h0 h1 (show _ = _ from Bool.eq_false_iff.2 h))
theorem spec_sw (x : Int) (w : World) (h0 : 0 ≤ x) (h1 : x ≤ 4294967295) :
    Calls Tryd.prog 29 #[.int .u32 x] w fun e w' => e = .returned (.string (wordLine x)) ∧ Below w.heap.size w w' := by
  unfold wordLine
  by_cases h : wOk x = true
  · rw [if_pos h]
    exact spec_sw_yes x _ _ _ _ _ _ rfl w h (spec_dec x true w h0 h1 h)
  · rw [if_neg h]
    exact spec_sw_no x w h0 h1 (spec_dec x false w h0 h1 (show _ = _ from Bool.eq_false_iff.2 h))
end Go.Proofs.YtdjapcfejmhjnaaDoor
