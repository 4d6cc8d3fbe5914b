
/-
  The text of a drawn event comes back as it: the law FnEventText walked. Conditions: the bytes are at most 1048576; the program's table of names and the library's tables lie in memory as the texts lay them.
-/
import Derived.Test.YthlapikcjiajgaaDoorBas
import Derived.Test.YthlapikcjiajgaaDoorVev
import Derived.Test.YthlapikcjiajgaaDoorEvd
import Derived.Test.YthlapikcjiajgaaDoorLrw
namespace Go.Proofs.YthlapikcjiajgaaDoor
open Go.ChangeShapes Go.WideShapes Go.ChangeAt Go.RowKit Go.Deep
set_option linter.unusedVariables false

theorem big_no (w : World) (a : Option Addr) (n cap : Nat) (hn : n ≤ 1048576) : Calls Tryd.prog 12 #[.slice a n cap] w fun e w' => e = .returned (.bool false) ∧ w' = w := by
  go_enter Tryd.func12, Tryd.ntmps12
  go_wp2
  go_ret
  exact ⟨ret_bool (decide_eq_false (by omega)), rfl⟩
theorem big_yes (w : World) (a : Option Addr) (n cap : Nat) (hn : ¬ n ≤ 1048576) : Calls Tryd.prog 12 #[.slice a n cap] w fun e w' => e = .returned (.bool true) ∧ w' = w := by
  go_enter Tryd.func12, Tryd.ntmps12
  go_wp2
  go_ret
  exact ⟨ret_bool (decide_eq_true (by omega)), rfl⟩
set_option maxRecDepth 40000 in
set_option maxHeartbeats 8000000 in
theorem evt_walk (w : World) (b : Option Addr) (n cap : Nat) (zs : List Int) (hz : zs.length = n) (hs : Seg .u8 w b zs) (hw : ∀ z ∈ zs, (Lit.int .u8 z).wf = true) (hn : n ≤ 1048576) (hT : EvtIs w) (hM : TabM w) :
    Calls Tryd.prog 5 #[.slice b n cap] w fun e w' => e = .returned (.bool true) ∧ Below w.heap.size w w' := by
  have HDW : Hid (Calls Tryd.prog 13 #[.slice b n cap] w fun e w' => ∃ a c p o f u s, e = .returned (.agg #[.int .i64 a, .int .i64 c, .int .u32 p, .int .i64 o, .int .i64 f, .int .i64 u, .int .u32 s]) ∧ EvDr a c p o f u s ∧ Below w.heap.size w w') := by
    have := draw_evt w b zs cap hs hw (by rw [hz]; exact hn)
    rw [hz] at this
    exact this
  have HT : Hid (∀ X, Below w.heap.size w X → EvtIs X ∧ TabM X) := fun X hX => ⟨⟨pow_below hT.1 hX, var_below gNames hT.2 (World.block_lt_of_cell? w _ (tab_names hT.2 0 (by omega))) hX⟩, by
    obtain ⟨m, hm⟩ := hM
    exact ⟨m, (hX.cell (World.block_lt_of_cell? _ _ hm)).trans hm⟩⟩
  have HBG := big_no w b n cap hn
  have HBG : Hid _ := HBG
  clear hz hs hw hn hT hM
  go_enter Tryd.func5, Tryd.ntmps5
  go_wp2_with fail
  refine Calls.mono HBG.out ?_
  rintro e w0 ⟨rfl, hw0⟩
  subst hw0
  go_wp2_with fail
  refine Calls.mono HDW.out ?_
  rintro e w1 ⟨a, c, p, o, f, u, s, rfl, hd, hb1⟩
  have HBD : Hid (Below w0.heap.size w0 w1) := hb1
  have HTT : Hid (∀ X, Below w0.heap.size w0 X → EvtIs X ∧ TabM X) := HT.out
  have HD : Hid (EvDr a c p o f u s) := hd
  clear hd hb1 HDW HBG HT
  have hI : ∀ X, Below w0.heap.size w0 X → Calls Tryd.prog 8 #[.agg #[.int .i64 a, .int .i64 c, .int .u32 p, .int .i64 o, .int .i64 f, .int .i64 u, .int .u32 s]] X fun e w' => e = .returned (.string (Ex.evt a c p o f u s)) ∧ Below X.heap.size X w' := fun X hX =>
    impl_evt a c p o f u s X HD.out.ha (by have := HD.out.hc; unfold Ex.Md at this; omega) HD.out.hp (by have := HD.out.hf; omega) (by have := HD.out.hu; unfold Ex.Md at this; omega) HD.out.hs (tab_names (HTT.out X hX).1.2) (HTT.out X hX).1.1 (fun Y hY => pow_below (HTT.out X hX).1.1 hY)
  have hS : ∀ X, Calls Tryd.prog 6 #[.agg #[.int .i64 a, .int .i64 c, .int .u32 p, .int .i64 o, .int .i64 f, .int .i64 u, .int .u32 s]] X fun e w' => e = .returned (.string (Ex.evt a c p o f u s)) ∧ Below X.heap.size X w' := fun X =>
    spec_evt a c p o f u s X HD.out.ha (by have := HD.out.hc; unfold Ex.Md at this; omega) HD.out.hp (by have := HD.out.hf; omega) (by have := HD.out.hu; unfold Ex.Md at this; omega) HD.out.hs
  have hsz : (Ex.evt a c p o f u s).size ≤ 1048576 := by
    have z1 := Ex.dt_size a
    have z2 := Ex.dt_size c
    have z3 := Ex.hx_size p
    have z4 := Ex.opw_size o
    have z5 := Ex.dt_size f
    have z6 := Ex.dt_size u
    have z7 := Ex.hx_size s
    have es : (Ex.sp : ByteArray).size = 1 := rfl
    unfold Ex.evt Ex.line
    simp only [ByteArray.size_append, es]
    omega
  have hO : ∀ X, Below w0.heap.size w0 X → Calls Tryd.prog 10 #[.string (Ex.evt a c p o f u s)] X fun e w' => e = .returned (.tuple #[evV (Ex.evo (Ex.evt a c p o f u s)).1, .bool (Ex.evo (Ex.evt a c p o f u s)).2]) ∧ Below X.heap.size X w' := fun X hX =>
    impl_evo _ X hsz (tab_names (HTT.out X hX).1.2) (HTT.out X hX).2
  rw [Ex.evo_evt a c p o f u s HD.out.ha HD.out.hc HD.out.hp (by have := HD.out.hf; omega) HD.out.hu HD.out.hs] at hO
  have hfl : -1000000 ≤ f := HD.out.hf.1
  generalize Ex.evt a c p o f u s = T at hI hS hO hsz
  clear hsz HTT HD
  by_cases hG : (-1000000 ≤ a ∧ a ≤ 1000000) ∧ (-1000000 ≤ f ∧ f ≤ 1000000)
  · rw [if_pos hG] at hO
    by_cases HoL : o < -1
    · have hop : Ex.opn o = -1 := by unfold Ex.opn; rw [if_neg (by omega)]
      rw [hop] at hO
      clear hop hG hfl
      have oL : decide (o < -1) = true := decide_eq_true HoL
      have HI : Hid (∀ X, Below w0.heap.size w0 X → Calls Tryd.prog 8 #[.agg #[.int .i64 a, .int .i64 c, .int .u32 p, .int .i64 o, .int .i64 f, .int .i64 u, .int .u32 s]] X fun e w' => e = .returned (.string T) ∧ Below X.heap.size X w') := hI
      have HO : Hid (∀ X, Below w0.heap.size w0 X → Calls Tryd.prog 10 #[.string T] X fun e w' => e = .returned (.tuple #[.agg #[.int .i64 a, .int .i64 c, .int .u32 p, .int .i64 (-1), .int .i64 f, .int .i64 u, .int .u32 s], .bool true]) ∧ Below X.heap.size X w') := hO
      have HS : Hid (∀ X, Calls Tryd.prog 6 #[.agg #[.int .i64 a, .int .i64 c, .int .u32 p, .int .i64 o, .int .i64 f, .int .i64 u, .int .u32 s]] X fun e w' => e = .returned (.string T) ∧ Below X.heap.size X w') := hS
      clear hI hO hS HoL
      have HN1 : Hid ((w1.alloc (.cells #[.int .i64 0, .int .i64 0, .int .u32 0, .int .i64 0, .int .i64 0, .int .i64 0, .int .u32 0] 26)).heap[w1.heap.size]? = some (.cells #[.int .i64 0, .int .i64 0, .int .u32 0, .int .i64 0, .int .i64 0, .int .i64 0, .int .u32 0] 26 (0, 0))) := new_row w1 _ _ _ rfl
      have HR1 : Hid (((w1.alloc (.cells #[.int .i64 0, .int .i64 0, .int .u32 0, .int .i64 0, .int .i64 0, .int .i64 0, .int .u32 0] 26)).setRow w1.heap.size #[.int .i64 a, .int .i64 c, .int .u32 p, .int .i64 o, .int .i64 f, .int .i64 u, .int .u32 s]).heap[w1.heap.size]? = some (.cells #[.int .i64 a, .int .i64 c, .int .u32 p, .int .i64 o, .int .i64 f, .int .i64 u, .int .u32 s] 26 (0, 0))) := setRow_heap _ _ _ _ _ _ HN1.out
      have HB1 : Hid (Below w0.heap.size w0 ((w1.alloc (.cells #[.int .i64 0, .int .i64 0, .int .u32 0, .int .i64 0, .int .i64 0, .int .i64 0, .int .u32 0] 26)).setRow w1.heap.size #[.int .i64 a, .int .i64 c, .int .u32 p, .int .i64 o, .int .i64 f, .int .i64 u, .int .u32 s])) := HBD.out.trans ((below_setRow ((Below.refl w1.heap.size w1).alloc (Nat.le_refl _) _) (Nat.le_refl _) _).mono HBD.out.size)
      go_wp2_with (first | (refine wpList_store_row rfl 26 (.tmp 3) (.tmp 10) rfl w1.heap.size #[.int .i64 a, .int .i64 c, .int .u32 p, .int .i64 o, .int .i64 f, .int .i64 u, .int .u32 s] rfl rfl 26 #[.int .i64 0, .int .i64 0, .int .u32 0, .int .i64 0, .int .i64 0, .int .i64 0, .int .u32 0] HN1.out (by kernel_rfl) rfl (by simp [Value.oneCell']) ?_; generalize ((w1.alloc (.cells #[.int .i64 0, .int .i64 0, .int .u32 0, .int .i64 0, .int .i64 0, .int .i64 0, .int .u32 0] 26)).setRow w1.heap.size #[.int .i64 a, .int .i64 c, .int .u32 p, .int .i64 o, .int .i64 f, .int .i64 u, .int .u32 s]) = U1 at HR1 HB1 ⊢) | (refine wpList_load_row rfl 26 (.tmp 3) rfl w1.heap.size rfl 26 #[.int .i64 a, .int .i64 c, .int .u32 p, .int .i64 o, .int .i64 f, .int .i64 u, .int .u32 s] (0, 0) _ HR1.out Tryd.underlying26 rfl (by kernel_rfl) ?_) | fail)
      refine Calls.mono (HI.out _ HB1.out) ?_
      rintro e w2 ⟨rfl, hb2⟩
      have HB2 : Hid (Below w0.heap.size w0 w2) := HB1.out.trans (hb2.mono HB1.out.size)
      have HR2 : Hid (w2.heap[w1.heap.size]? = some (.cells #[.int .i64 a, .int .i64 c, .int .u32 p, .int .i64 o, .int .i64 f, .int .i64 u, .int .u32 s] 26 (0, 0))) := row_below HR1.out hb2
      clear hb2 HN1
      go_wp2_with fail
      refine Calls.mono (HO.out _ HB2.out) ?_
      rintro e w3 ⟨rfl, hb3⟩
      have HB3 : Hid (Below w0.heap.size w0 w3) := HB2.out.trans (hb3.mono HB2.out.size)
      have HR3 : Hid (w3.heap[w1.heap.size]? = some (.cells #[.int .i64 a, .int .i64 c, .int .u32 p, .int .i64 o, .int .i64 f, .int .i64 u, .int .u32 s] 26 (0, 0))) := row_below HR2.out hb3
      have HN3 : Hid ((w3.alloc (.cells #[.int .i64 0, .int .i64 0, .int .u32 0, .int .i64 0, .int .i64 0, .int .i64 0, .int .u32 0] 26)).heap[w3.heap.size]? = some (.cells #[.int .i64 0, .int .i64 0, .int .u32 0, .int .i64 0, .int .i64 0, .int .i64 0, .int .u32 0] 26 (0, 0))) := new_row w3 _ _ _ rfl
      have hbs : Below w3.heap.size w3 ((w3.alloc (.cells #[.int .i64 0, .int .i64 0, .int .u32 0, .int .i64 0, .int .i64 0, .int .i64 0, .int .u32 0] 26)).setRow w3.heap.size #[.int .i64 a, .int .i64 c, .int .u32 p, .int .i64 (-1), .int .i64 f, .int .i64 u, .int .u32 s]) := below_setRow ((Below.refl w3.heap.size w3).alloc (Nat.le_refl _) _) (Nat.le_refl _) _
      have HK : Hid (((w3.alloc (.cells #[.int .i64 0, .int .i64 0, .int .u32 0, .int .i64 0, .int .i64 0, .int .i64 0, .int .u32 0] 26)).setRow w3.heap.size #[.int .i64 a, .int .i64 c, .int .u32 p, .int .i64 (-1), .int .i64 f, .int .i64 u, .int .u32 s]).heap[w3.heap.size]? = some (.cells #[.int .i64 a, .int .i64 c, .int .u32 p, .int .i64 (-1), .int .i64 f, .int .i64 u, .int .u32 s] 26 (0, 0))) := setRow_heap _ _ _ _ _ _ HN3.out
      have HR4 : Hid (((w3.alloc (.cells #[.int .i64 0, .int .i64 0, .int .u32 0, .int .i64 0, .int .i64 0, .int .i64 0, .int .u32 0] 26)).setRow w3.heap.size #[.int .i64 a, .int .i64 c, .int .u32 p, .int .i64 (-1), .int .i64 f, .int .i64 u, .int .u32 s]).heap[w1.heap.size]? = some (.cells #[.int .i64 a, .int .i64 c, .int .u32 p, .int .i64 o, .int .i64 f, .int .i64 u, .int .u32 s] 26 (0, 0))) := row_below HR3.out hbs
      have HB4 : Hid (Below w0.heap.size w0 ((w3.alloc (.cells #[.int .i64 0, .int .i64 0, .int .u32 0, .int .i64 0, .int .i64 0, .int .i64 0, .int .u32 0] 26)).setRow w3.heap.size #[.int .i64 a, .int .i64 c, .int .u32 p, .int .i64 (-1), .int .i64 f, .int .i64 u, .int .u32 s])) := HB3.out.trans (hbs.mono HB3.out.size)
      clear hb3 hbs HB1 HR1 HB2 HR2 HB3 HR3
      go_wp2_with (first | (refine wpList_store_row rfl 26 (.tmp 5) (.tmp 16) rfl w3.heap.size #[.int .i64 a, .int .i64 c, .int .u32 p, .int .i64 (-1), .int .i64 f, .int .i64 u, .int .u32 s] rfl rfl 26 #[.int .i64 0, .int .i64 0, .int .u32 0, .int .i64 0, .int .i64 0, .int .i64 0, .int .u32 0] HN3.out (by kernel_rfl) rfl (by simp [Value.oneCell']) ?_; generalize ((w3.alloc (.cells #[.int .i64 0, .int .i64 0, .int .u32 0, .int .i64 0, .int .i64 0, .int .i64 0, .int .u32 0] 26)).setRow w3.heap.size #[.int .i64 a, .int .i64 c, .int .u32 p, .int .i64 (-1), .int .i64 f, .int .i64 u, .int .u32 s]) = U2 at HK HR4 HB4 ⊢) | (refine wpList_load_row rfl 26 (.tmp 3) rfl w1.heap.size rfl 26 #[.int .i64 a, .int .i64 c, .int .u32 p, .int .i64 o, .int .i64 f, .int .i64 u, .int .u32 s] (0, 0) _ HR4.out Tryd.underlying26 rfl (by kernel_rfl) ?_) | fail)
      refine Calls.mono (HS.out _) ?_
      rintro e w4 ⟨rfl, hb4⟩
      have HB5 : Hid (Below w0.heap.size w0 w4) := HB4.out.trans (hb4.mono HB4.out.size)
      have HK5 : Hid (w4.heap[w3.heap.size]? = some (.cells #[.int .i64 a, .int .i64 c, .int .u32 p, .int .i64 (-1), .int .i64 f, .int .i64 u, .int .u32 s] 26 (0, 0))) := row_below HK.out hb4
      have HR5 : Hid (w4.heap[w1.heap.size]? = some (.cells #[.int .i64 a, .int .i64 c, .int .u32 p, .int .i64 o, .int .i64 f, .int .i64 u, .int .u32 s] 26 (0, 0))) := row_below HR4.out hb4
      have e0 := row_c HR5.out 0 _ rfl
      have e3 := row_c HR5.out 3 _ rfl
      have e4 := row_c HR5.out 4 _ rfl
      have k3 := row_c HK5.out 3 _ rfl
      clear hb4 HB4 HK HR4 HN3
      go_wp2_with (first | (refine wpList_load_rowG rfl 26 (.tmp 5) rfl w3.heap.size rfl 26 #[.int .i64 a, .int .i64 c, .int .u32 p, .int .i64 (-1), .int .i64 f, .int .i64 u, .int .u32 s] (0, 0) _ HK5.out Tryd.underlying26 rfl (by kernel_rfl) ?_) | (refine wpList_load_rowG rfl 26 (.tmp 3) rfl w1.heap.size rfl 26 #[.int .i64 a, .int .i64 c, .int .u32 p, .int .i64 o, .int .i64 f, .int .i64 u, .int .u32 s] (0, 0) _ HR5.out Tryd.underlying26 rfl (by kernel_rfl) ?_) | fail)
      go_ret
      exact ⟨rfl, HB5.out⟩
    · by_cases HoH : 33 ≤ o
      · have hop : Ex.opn o = -1 := by unfold Ex.opn; rw [if_neg (by omega)]
        rw [hop] at hO
        clear hop hG hfl
        have oL : decide (o < -1) = false := decide_eq_false HoL
        have oH : decide (33 ≤ o) = true := decide_eq_true HoH
        have HI : Hid (∀ X, Below w0.heap.size w0 X → Calls Tryd.prog 8 #[.agg #[.int .i64 a, .int .i64 c, .int .u32 p, .int .i64 o, .int .i64 f, .int .i64 u, .int .u32 s]] X fun e w' => e = .returned (.string T) ∧ Below X.heap.size X w') := hI
        have HO : Hid (∀ X, Below w0.heap.size w0 X → Calls Tryd.prog 10 #[.string T] X fun e w' => e = .returned (.tuple #[.agg #[.int .i64 a, .int .i64 c, .int .u32 p, .int .i64 (-1), .int .i64 f, .int .i64 u, .int .u32 s], .bool true]) ∧ Below X.heap.size X w') := hO
        have HS : Hid (∀ X, Calls Tryd.prog 6 #[.agg #[.int .i64 a, .int .i64 c, .int .u32 p, .int .i64 o, .int .i64 f, .int .i64 u, .int .u32 s]] X fun e w' => e = .returned (.string T) ∧ Below X.heap.size X w') := hS
        clear hI hO hS HoL HoH
        have HN1 : Hid ((w1.alloc (.cells #[.int .i64 0, .int .i64 0, .int .u32 0, .int .i64 0, .int .i64 0, .int .i64 0, .int .u32 0] 26)).heap[w1.heap.size]? = some (.cells #[.int .i64 0, .int .i64 0, .int .u32 0, .int .i64 0, .int .i64 0, .int .i64 0, .int .u32 0] 26 (0, 0))) := new_row w1 _ _ _ rfl
        have HR1 : Hid (((w1.alloc (.cells #[.int .i64 0, .int .i64 0, .int .u32 0, .int .i64 0, .int .i64 0, .int .i64 0, .int .u32 0] 26)).setRow w1.heap.size #[.int .i64 a, .int .i64 c, .int .u32 p, .int .i64 o, .int .i64 f, .int .i64 u, .int .u32 s]).heap[w1.heap.size]? = some (.cells #[.int .i64 a, .int .i64 c, .int .u32 p, .int .i64 o, .int .i64 f, .int .i64 u, .int .u32 s] 26 (0, 0))) := setRow_heap _ _ _ _ _ _ HN1.out
        have HB1 : Hid (Below w0.heap.size w0 ((w1.alloc (.cells #[.int .i64 0, .int .i64 0, .int .u32 0, .int .i64 0, .int .i64 0, .int .i64 0, .int .u32 0] 26)).setRow w1.heap.size #[.int .i64 a, .int .i64 c, .int .u32 p, .int .i64 o, .int .i64 f, .int .i64 u, .int .u32 s])) := HBD.out.trans ((below_setRow ((Below.refl w1.heap.size w1).alloc (Nat.le_refl _) _) (Nat.le_refl _) _).mono HBD.out.size)
        go_wp2_with (first | (refine wpList_store_row rfl 26 (.tmp 3) (.tmp 10) rfl w1.heap.size #[.int .i64 a, .int .i64 c, .int .u32 p, .int .i64 o, .int .i64 f, .int .i64 u, .int .u32 s] rfl rfl 26 #[.int .i64 0, .int .i64 0, .int .u32 0, .int .i64 0, .int .i64 0, .int .i64 0, .int .u32 0] HN1.out (by kernel_rfl) rfl (by simp [Value.oneCell']) ?_; generalize ((w1.alloc (.cells #[.int .i64 0, .int .i64 0, .int .u32 0, .int .i64 0, .int .i64 0, .int .i64 0, .int .u32 0] 26)).setRow w1.heap.size #[.int .i64 a, .int .i64 c, .int .u32 p, .int .i64 o, .int .i64 f, .int .i64 u, .int .u32 s]) = U1 at HR1 HB1 ⊢) | (refine wpList_load_row rfl 26 (.tmp 3) rfl w1.heap.size rfl 26 #[.int .i64 a, .int .i64 c, .int .u32 p, .int .i64 o, .int .i64 f, .int .i64 u, .int .u32 s] (0, 0) _ HR1.out Tryd.underlying26 rfl (by kernel_rfl) ?_) | fail)
        refine Calls.mono (HI.out _ HB1.out) ?_
        rintro e w2 ⟨rfl, hb2⟩
        have HB2 : Hid (Below w0.heap.size w0 w2) := HB1.out.trans (hb2.mono HB1.out.size)
        have HR2 : Hid (w2.heap[w1.heap.size]? = some (.cells #[.int .i64 a, .int .i64 c, .int .u32 p, .int .i64 o, .int .i64 f, .int .i64 u, .int .u32 s] 26 (0, 0))) := row_below HR1.out hb2
        clear hb2 HN1
        go_wp2_with fail
        refine Calls.mono (HO.out _ HB2.out) ?_
        rintro e w3 ⟨rfl, hb3⟩
        have HB3 : Hid (Below w0.heap.size w0 w3) := HB2.out.trans (hb3.mono HB2.out.size)
        have HR3 : Hid (w3.heap[w1.heap.size]? = some (.cells #[.int .i64 a, .int .i64 c, .int .u32 p, .int .i64 o, .int .i64 f, .int .i64 u, .int .u32 s] 26 (0, 0))) := row_below HR2.out hb3
        have HN3 : Hid ((w3.alloc (.cells #[.int .i64 0, .int .i64 0, .int .u32 0, .int .i64 0, .int .i64 0, .int .i64 0, .int .u32 0] 26)).heap[w3.heap.size]? = some (.cells #[.int .i64 0, .int .i64 0, .int .u32 0, .int .i64 0, .int .i64 0, .int .i64 0, .int .u32 0] 26 (0, 0))) := new_row w3 _ _ _ rfl
        have hbs : Below w3.heap.size w3 ((w3.alloc (.cells #[.int .i64 0, .int .i64 0, .int .u32 0, .int .i64 0, .int .i64 0, .int .i64 0, .int .u32 0] 26)).setRow w3.heap.size #[.int .i64 a, .int .i64 c, .int .u32 p, .int .i64 (-1), .int .i64 f, .int .i64 u, .int .u32 s]) := below_setRow ((Below.refl w3.heap.size w3).alloc (Nat.le_refl _) _) (Nat.le_refl _) _
        have HK : Hid (((w3.alloc (.cells #[.int .i64 0, .int .i64 0, .int .u32 0, .int .i64 0, .int .i64 0, .int .i64 0, .int .u32 0] 26)).setRow w3.heap.size #[.int .i64 a, .int .i64 c, .int .u32 p, .int .i64 (-1), .int .i64 f, .int .i64 u, .int .u32 s]).heap[w3.heap.size]? = some (.cells #[.int .i64 a, .int .i64 c, .int .u32 p, .int .i64 (-1), .int .i64 f, .int .i64 u, .int .u32 s] 26 (0, 0))) := setRow_heap _ _ _ _ _ _ HN3.out
        have HR4 : Hid (((w3.alloc (.cells #[.int .i64 0, .int .i64 0, .int .u32 0, .int .i64 0, .int .i64 0, .int .i64 0, .int .u32 0] 26)).setRow w3.heap.size #[.int .i64 a, .int .i64 c, .int .u32 p, .int .i64 (-1), .int .i64 f, .int .i64 u, .int .u32 s]).heap[w1.heap.size]? = some (.cells #[.int .i64 a, .int .i64 c, .int .u32 p, .int .i64 o, .int .i64 f, .int .i64 u, .int .u32 s] 26 (0, 0))) := row_below HR3.out hbs
        have HB4 : Hid (Below w0.heap.size w0 ((w3.alloc (.cells #[.int .i64 0, .int .i64 0, .int .u32 0, .int .i64 0, .int .i64 0, .int .i64 0, .int .u32 0] 26)).setRow w3.heap.size #[.int .i64 a, .int .i64 c, .int .u32 p, .int .i64 (-1), .int .i64 f, .int .i64 u, .int .u32 s])) := HB3.out.trans (hbs.mono HB3.out.size)
        clear hb3 hbs HB1 HR1 HB2 HR2 HB3 HR3
        go_wp2_with (first | (refine wpList_store_row rfl 26 (.tmp 5) (.tmp 16) rfl w3.heap.size #[.int .i64 a, .int .i64 c, .int .u32 p, .int .i64 (-1), .int .i64 f, .int .i64 u, .int .u32 s] rfl rfl 26 #[.int .i64 0, .int .i64 0, .int .u32 0, .int .i64 0, .int .i64 0, .int .i64 0, .int .u32 0] HN3.out (by kernel_rfl) rfl (by simp [Value.oneCell']) ?_; generalize ((w3.alloc (.cells #[.int .i64 0, .int .i64 0, .int .u32 0, .int .i64 0, .int .i64 0, .int .i64 0, .int .u32 0] 26)).setRow w3.heap.size #[.int .i64 a, .int .i64 c, .int .u32 p, .int .i64 (-1), .int .i64 f, .int .i64 u, .int .u32 s]) = U2 at HK HR4 HB4 ⊢) | (refine wpList_load_row rfl 26 (.tmp 3) rfl w1.heap.size rfl 26 #[.int .i64 a, .int .i64 c, .int .u32 p, .int .i64 o, .int .i64 f, .int .i64 u, .int .u32 s] (0, 0) _ HR4.out Tryd.underlying26 rfl (by kernel_rfl) ?_) | fail)
        refine Calls.mono (HS.out _) ?_
        rintro e w4 ⟨rfl, hb4⟩
        have HB5 : Hid (Below w0.heap.size w0 w4) := HB4.out.trans (hb4.mono HB4.out.size)
        have HK5 : Hid (w4.heap[w3.heap.size]? = some (.cells #[.int .i64 a, .int .i64 c, .int .u32 p, .int .i64 (-1), .int .i64 f, .int .i64 u, .int .u32 s] 26 (0, 0))) := row_below HK.out hb4
        have HR5 : Hid (w4.heap[w1.heap.size]? = some (.cells #[.int .i64 a, .int .i64 c, .int .u32 p, .int .i64 o, .int .i64 f, .int .i64 u, .int .u32 s] 26 (0, 0))) := row_below HR4.out hb4
        have e0 := row_c HR5.out 0 _ rfl
        have e3 := row_c HR5.out 3 _ rfl
        have e4 := row_c HR5.out 4 _ rfl
        have k3 := row_c HK5.out 3 _ rfl
        clear hb4 HB4 HK HR4 HN3
        go_wp2_with (first | (refine wpList_load_rowG rfl 26 (.tmp 5) rfl w3.heap.size rfl 26 #[.int .i64 a, .int .i64 c, .int .u32 p, .int .i64 (-1), .int .i64 f, .int .i64 u, .int .u32 s] (0, 0) _ HK5.out Tryd.underlying26 rfl (by kernel_rfl) ?_) | (refine wpList_load_rowG rfl 26 (.tmp 3) rfl w1.heap.size rfl 26 #[.int .i64 a, .int .i64 c, .int .u32 p, .int .i64 o, .int .i64 f, .int .i64 u, .int .u32 s] (0, 0) _ HR5.out Tryd.underlying26 rfl (by kernel_rfl) ?_) | fail)
        go_ret
        exact ⟨rfl, HB5.out⟩
      · have hop : Ex.opn o = o := by unfold Ex.opn; by_cases h0 : 0 ≤ o ∧ o < 33; · rw [if_pos h0]
                                      · rw [if_neg h0]; omega
        rw [hop] at hO
        have HaL : ¬ a < -1000000 := by omega
        have HaH : ¬ 1000000 < a := by omega
        have HfH : ¬ 1000000 < f := by omega
        clear hop hG hfl
        have oL : decide (o < -1) = false := decide_eq_false HoL
        have oH : decide (33 ≤ o) = false := decide_eq_false HoH
        have aL : decide (a < -1000000) = false := decide_eq_false HaL
        have aH : decide ((1000000 : Int) < a) = false := decide_eq_false HaH
        have fH : decide ((1000000 : Int) < f) = false := decide_eq_false HfH
        have HI : Hid (∀ X, Below w0.heap.size w0 X → Calls Tryd.prog 8 #[.agg #[.int .i64 a, .int .i64 c, .int .u32 p, .int .i64 o, .int .i64 f, .int .i64 u, .int .u32 s]] X fun e w' => e = .returned (.string T) ∧ Below X.heap.size X w') := hI
        have HO : Hid (∀ X, Below w0.heap.size w0 X → Calls Tryd.prog 10 #[.string T] X fun e w' => e = .returned (.tuple #[.agg #[.int .i64 a, .int .i64 c, .int .u32 p, .int .i64 o, .int .i64 f, .int .i64 u, .int .u32 s], .bool true]) ∧ Below X.heap.size X w') := hO
        have HS : Hid (∀ X, Calls Tryd.prog 6 #[.agg #[.int .i64 a, .int .i64 c, .int .u32 p, .int .i64 o, .int .i64 f, .int .i64 u, .int .u32 s]] X fun e w' => e = .returned (.string T) ∧ Below X.heap.size X w') := hS
        clear hI hO hS HoL HoH HaL HaH HfH
        have HN1 : Hid ((w1.alloc (.cells #[.int .i64 0, .int .i64 0, .int .u32 0, .int .i64 0, .int .i64 0, .int .i64 0, .int .u32 0] 26)).heap[w1.heap.size]? = some (.cells #[.int .i64 0, .int .i64 0, .int .u32 0, .int .i64 0, .int .i64 0, .int .i64 0, .int .u32 0] 26 (0, 0))) := new_row w1 _ _ _ rfl
        have HR1 : Hid (((w1.alloc (.cells #[.int .i64 0, .int .i64 0, .int .u32 0, .int .i64 0, .int .i64 0, .int .i64 0, .int .u32 0] 26)).setRow w1.heap.size #[.int .i64 a, .int .i64 c, .int .u32 p, .int .i64 o, .int .i64 f, .int .i64 u, .int .u32 s]).heap[w1.heap.size]? = some (.cells #[.int .i64 a, .int .i64 c, .int .u32 p, .int .i64 o, .int .i64 f, .int .i64 u, .int .u32 s] 26 (0, 0))) := setRow_heap _ _ _ _ _ _ HN1.out
        have HB1 : Hid (Below w0.heap.size w0 ((w1.alloc (.cells #[.int .i64 0, .int .i64 0, .int .u32 0, .int .i64 0, .int .i64 0, .int .i64 0, .int .u32 0] 26)).setRow w1.heap.size #[.int .i64 a, .int .i64 c, .int .u32 p, .int .i64 o, .int .i64 f, .int .i64 u, .int .u32 s])) := HBD.out.trans ((below_setRow ((Below.refl w1.heap.size w1).alloc (Nat.le_refl _) _) (Nat.le_refl _) _).mono HBD.out.size)
        go_wp2_with (first | (refine wpList_store_row rfl 26 (.tmp 3) (.tmp 10) rfl w1.heap.size #[.int .i64 a, .int .i64 c, .int .u32 p, .int .i64 o, .int .i64 f, .int .i64 u, .int .u32 s] rfl rfl 26 #[.int .i64 0, .int .i64 0, .int .u32 0, .int .i64 0, .int .i64 0, .int .i64 0, .int .u32 0] HN1.out (by kernel_rfl) rfl (by simp [Value.oneCell']) ?_; generalize ((w1.alloc (.cells #[.int .i64 0, .int .i64 0, .int .u32 0, .int .i64 0, .int .i64 0, .int .i64 0, .int .u32 0] 26)).setRow w1.heap.size #[.int .i64 a, .int .i64 c, .int .u32 p, .int .i64 o, .int .i64 f, .int .i64 u, .int .u32 s]) = U1 at HR1 HB1 ⊢) | (refine wpList_load_row rfl 26 (.tmp 3) rfl w1.heap.size rfl 26 #[.int .i64 a, .int .i64 c, .int .u32 p, .int .i64 o, .int .i64 f, .int .i64 u, .int .u32 s] (0, 0) _ HR1.out Tryd.underlying26 rfl (by kernel_rfl) ?_) | fail)
        refine Calls.mono (HI.out _ HB1.out) ?_
        rintro e w2 ⟨rfl, hb2⟩
        have HB2 : Hid (Below w0.heap.size w0 w2) := HB1.out.trans (hb2.mono HB1.out.size)
        have HR2 : Hid (w2.heap[w1.heap.size]? = some (.cells #[.int .i64 a, .int .i64 c, .int .u32 p, .int .i64 o, .int .i64 f, .int .i64 u, .int .u32 s] 26 (0, 0))) := row_below HR1.out hb2
        clear hb2 HN1
        go_wp2_with fail
        refine Calls.mono (HO.out _ HB2.out) ?_
        rintro e w3 ⟨rfl, hb3⟩
        have HB3 : Hid (Below w0.heap.size w0 w3) := HB2.out.trans (hb3.mono HB2.out.size)
        have HR3 : Hid (w3.heap[w1.heap.size]? = some (.cells #[.int .i64 a, .int .i64 c, .int .u32 p, .int .i64 o, .int .i64 f, .int .i64 u, .int .u32 s] 26 (0, 0))) := row_below HR2.out hb3
        have HN3 : Hid ((w3.alloc (.cells #[.int .i64 0, .int .i64 0, .int .u32 0, .int .i64 0, .int .i64 0, .int .i64 0, .int .u32 0] 26)).heap[w3.heap.size]? = some (.cells #[.int .i64 0, .int .i64 0, .int .u32 0, .int .i64 0, .int .i64 0, .int .i64 0, .int .u32 0] 26 (0, 0))) := new_row w3 _ _ _ rfl
        have hbs : Below w3.heap.size w3 ((w3.alloc (.cells #[.int .i64 0, .int .i64 0, .int .u32 0, .int .i64 0, .int .i64 0, .int .i64 0, .int .u32 0] 26)).setRow w3.heap.size #[.int .i64 a, .int .i64 c, .int .u32 p, .int .i64 o, .int .i64 f, .int .i64 u, .int .u32 s]) := below_setRow ((Below.refl w3.heap.size w3).alloc (Nat.le_refl _) _) (Nat.le_refl _) _
        have HK : Hid (((w3.alloc (.cells #[.int .i64 0, .int .i64 0, .int .u32 0, .int .i64 0, .int .i64 0, .int .i64 0, .int .u32 0] 26)).setRow w3.heap.size #[.int .i64 a, .int .i64 c, .int .u32 p, .int .i64 o, .int .i64 f, .int .i64 u, .int .u32 s]).heap[w3.heap.size]? = some (.cells #[.int .i64 a, .int .i64 c, .int .u32 p, .int .i64 o, .int .i64 f, .int .i64 u, .int .u32 s] 26 (0, 0))) := setRow_heap _ _ _ _ _ _ HN3.out
        have HR4 : Hid (((w3.alloc (.cells #[.int .i64 0, .int .i64 0, .int .u32 0, .int .i64 0, .int .i64 0, .int .i64 0, .int .u32 0] 26)).setRow w3.heap.size #[.int .i64 a, .int .i64 c, .int .u32 p, .int .i64 o, .int .i64 f, .int .i64 u, .int .u32 s]).heap[w1.heap.size]? = some (.cells #[.int .i64 a, .int .i64 c, .int .u32 p, .int .i64 o, .int .i64 f, .int .i64 u, .int .u32 s] 26 (0, 0))) := row_below HR3.out hbs
        have HB4 : Hid (Below w0.heap.size w0 ((w3.alloc (.cells #[.int .i64 0, .int .i64 0, .int .u32 0, .int .i64 0, .int .i64 0, .int .i64 0, .int .u32 0] 26)).setRow w3.heap.size #[.int .i64 a, .int .i64 c, .int .u32 p, .int .i64 o, .int .i64 f, .int .i64 u, .int .u32 s])) := HB3.out.trans (hbs.mono HB3.out.size)
        clear hb3 hbs HB1 HR1 HB2 HR2 HB3 HR3
        go_wp2_with (first | (refine wpList_store_row rfl 26 (.tmp 5) (.tmp 16) rfl w3.heap.size #[.int .i64 a, .int .i64 c, .int .u32 p, .int .i64 o, .int .i64 f, .int .i64 u, .int .u32 s] rfl rfl 26 #[.int .i64 0, .int .i64 0, .int .u32 0, .int .i64 0, .int .i64 0, .int .i64 0, .int .u32 0] HN3.out (by kernel_rfl) rfl (by simp [Value.oneCell']) ?_; generalize ((w3.alloc (.cells #[.int .i64 0, .int .i64 0, .int .u32 0, .int .i64 0, .int .i64 0, .int .i64 0, .int .u32 0] 26)).setRow w3.heap.size #[.int .i64 a, .int .i64 c, .int .u32 p, .int .i64 o, .int .i64 f, .int .i64 u, .int .u32 s]) = U2 at HK HR4 HB4 ⊢) | (refine wpList_load_row rfl 26 (.tmp 3) rfl w1.heap.size rfl 26 #[.int .i64 a, .int .i64 c, .int .u32 p, .int .i64 o, .int .i64 f, .int .i64 u, .int .u32 s] (0, 0) _ HR4.out Tryd.underlying26 rfl (by kernel_rfl) ?_) | fail)
        refine Calls.mono (HS.out _) ?_
        rintro e w4 ⟨rfl, hb4⟩
        have HB5 : Hid (Below w0.heap.size w0 w4) := HB4.out.trans (hb4.mono HB4.out.size)
        have HK5 : Hid (w4.heap[w3.heap.size]? = some (.cells #[.int .i64 a, .int .i64 c, .int .u32 p, .int .i64 o, .int .i64 f, .int .i64 u, .int .u32 s] 26 (0, 0))) := row_below HK.out hb4
        have HR5 : Hid (w4.heap[w1.heap.size]? = some (.cells #[.int .i64 a, .int .i64 c, .int .u32 p, .int .i64 o, .int .i64 f, .int .i64 u, .int .u32 s] 26 (0, 0))) := row_below HR4.out hb4
        have e0 := row_c HR5.out 0 _ rfl
        have e3 := row_c HR5.out 3 _ rfl
        have e4 := row_c HR5.out 4 _ rfl
        have k3 := row_c HK5.out 3 _ rfl
        clear hb4 HB4 HK HR4 HN3
        go_wp2_with (first | (refine wpList_load_rowG rfl 26 (.tmp 5) rfl w3.heap.size rfl 26 #[.int .i64 a, .int .i64 c, .int .u32 p, .int .i64 o, .int .i64 f, .int .i64 u, .int .u32 s] (0, 0) _ HK5.out Tryd.underlying26 rfl (by kernel_rfl) ?_) | (refine wpList_load_rowG rfl 26 (.tmp 3) rfl w1.heap.size rfl 26 #[.int .i64 a, .int .i64 c, .int .u32 p, .int .i64 o, .int .i64 f, .int .i64 u, .int .u32 s] (0, 0) _ HR5.out Tryd.underlying26 rfl (by kernel_rfl) ?_) | fail)
        go_ret
        exact ⟨rfl, HB5.out⟩
  · rw [if_neg hG] at hO
    by_cases HoL : o < -1
    · clear hG hfl
      have oL : decide (o < -1) = true := decide_eq_true HoL
      have HI : Hid (∀ X, Below w0.heap.size w0 X → Calls Tryd.prog 8 #[.agg #[.int .i64 a, .int .i64 c, .int .u32 p, .int .i64 o, .int .i64 f, .int .i64 u, .int .u32 s]] X fun e w' => e = .returned (.string T) ∧ Below X.heap.size X w') := hI
      have HO : Hid (∀ X, Below w0.heap.size w0 X → Calls Tryd.prog 10 #[.string T] X fun e w' => e = .returned (.tuple #[.agg #[.int .i64 0, .int .i64 0, .int .u32 0, .int .i64 0, .int .i64 0, .int .i64 0, .int .u32 0], .bool false]) ∧ Below X.heap.size X w') := hO
      have HS : Hid (∀ X, Calls Tryd.prog 6 #[.agg #[.int .i64 a, .int .i64 c, .int .u32 p, .int .i64 o, .int .i64 f, .int .i64 u, .int .u32 s]] X fun e w' => e = .returned (.string T) ∧ Below X.heap.size X w') := hS
      clear hI hO hS HoL
      have HN1 : Hid ((w1.alloc (.cells #[.int .i64 0, .int .i64 0, .int .u32 0, .int .i64 0, .int .i64 0, .int .i64 0, .int .u32 0] 26)).heap[w1.heap.size]? = some (.cells #[.int .i64 0, .int .i64 0, .int .u32 0, .int .i64 0, .int .i64 0, .int .i64 0, .int .u32 0] 26 (0, 0))) := new_row w1 _ _ _ rfl
      have HR1 : Hid (((w1.alloc (.cells #[.int .i64 0, .int .i64 0, .int .u32 0, .int .i64 0, .int .i64 0, .int .i64 0, .int .u32 0] 26)).setRow w1.heap.size #[.int .i64 a, .int .i64 c, .int .u32 p, .int .i64 o, .int .i64 f, .int .i64 u, .int .u32 s]).heap[w1.heap.size]? = some (.cells #[.int .i64 a, .int .i64 c, .int .u32 p, .int .i64 o, .int .i64 f, .int .i64 u, .int .u32 s] 26 (0, 0))) := setRow_heap _ _ _ _ _ _ HN1.out
      have HB1 : Hid (Below w0.heap.size w0 ((w1.alloc (.cells #[.int .i64 0, .int .i64 0, .int .u32 0, .int .i64 0, .int .i64 0, .int .i64 0, .int .u32 0] 26)).setRow w1.heap.size #[.int .i64 a, .int .i64 c, .int .u32 p, .int .i64 o, .int .i64 f, .int .i64 u, .int .u32 s])) := HBD.out.trans ((below_setRow ((Below.refl w1.heap.size w1).alloc (Nat.le_refl _) _) (Nat.le_refl _) _).mono HBD.out.size)
      go_wp2_with (first | (refine wpList_store_row rfl 26 (.tmp 3) (.tmp 10) rfl w1.heap.size #[.int .i64 a, .int .i64 c, .int .u32 p, .int .i64 o, .int .i64 f, .int .i64 u, .int .u32 s] rfl rfl 26 #[.int .i64 0, .int .i64 0, .int .u32 0, .int .i64 0, .int .i64 0, .int .i64 0, .int .u32 0] HN1.out (by kernel_rfl) rfl (by simp [Value.oneCell']) ?_; generalize ((w1.alloc (.cells #[.int .i64 0, .int .i64 0, .int .u32 0, .int .i64 0, .int .i64 0, .int .i64 0, .int .u32 0] 26)).setRow w1.heap.size #[.int .i64 a, .int .i64 c, .int .u32 p, .int .i64 o, .int .i64 f, .int .i64 u, .int .u32 s]) = U1 at HR1 HB1 ⊢) | (refine wpList_load_row rfl 26 (.tmp 3) rfl w1.heap.size rfl 26 #[.int .i64 a, .int .i64 c, .int .u32 p, .int .i64 o, .int .i64 f, .int .i64 u, .int .u32 s] (0, 0) _ HR1.out Tryd.underlying26 rfl (by kernel_rfl) ?_) | fail)
      refine Calls.mono (HI.out _ HB1.out) ?_
      rintro e w2 ⟨rfl, hb2⟩
      have HB2 : Hid (Below w0.heap.size w0 w2) := HB1.out.trans (hb2.mono HB1.out.size)
      have HR2 : Hid (w2.heap[w1.heap.size]? = some (.cells #[.int .i64 a, .int .i64 c, .int .u32 p, .int .i64 o, .int .i64 f, .int .i64 u, .int .u32 s] 26 (0, 0))) := row_below HR1.out hb2
      clear hb2 HN1
      go_wp2_with fail
      refine Calls.mono (HO.out _ HB2.out) ?_
      rintro e w3 ⟨rfl, hb3⟩
      have HB3 : Hid (Below w0.heap.size w0 w3) := HB2.out.trans (hb3.mono HB2.out.size)
      have HR3 : Hid (w3.heap[w1.heap.size]? = some (.cells #[.int .i64 a, .int .i64 c, .int .u32 p, .int .i64 o, .int .i64 f, .int .i64 u, .int .u32 s] 26 (0, 0))) := row_below HR2.out hb3
      have HN3 : Hid ((w3.alloc (.cells #[.int .i64 0, .int .i64 0, .int .u32 0, .int .i64 0, .int .i64 0, .int .i64 0, .int .u32 0] 26)).heap[w3.heap.size]? = some (.cells #[.int .i64 0, .int .i64 0, .int .u32 0, .int .i64 0, .int .i64 0, .int .i64 0, .int .u32 0] 26 (0, 0))) := new_row w3 _ _ _ rfl
      have hbs : Below w3.heap.size w3 ((w3.alloc (.cells #[.int .i64 0, .int .i64 0, .int .u32 0, .int .i64 0, .int .i64 0, .int .i64 0, .int .u32 0] 26)).setRow w3.heap.size #[.int .i64 0, .int .i64 0, .int .u32 0, .int .i64 0, .int .i64 0, .int .i64 0, .int .u32 0]) := below_setRow ((Below.refl w3.heap.size w3).alloc (Nat.le_refl _) _) (Nat.le_refl _) _
      have HK : Hid (((w3.alloc (.cells #[.int .i64 0, .int .i64 0, .int .u32 0, .int .i64 0, .int .i64 0, .int .i64 0, .int .u32 0] 26)).setRow w3.heap.size #[.int .i64 0, .int .i64 0, .int .u32 0, .int .i64 0, .int .i64 0, .int .i64 0, .int .u32 0]).heap[w3.heap.size]? = some (.cells #[.int .i64 0, .int .i64 0, .int .u32 0, .int .i64 0, .int .i64 0, .int .i64 0, .int .u32 0] 26 (0, 0))) := setRow_heap _ _ _ _ _ _ HN3.out
      have HR4 : Hid (((w3.alloc (.cells #[.int .i64 0, .int .i64 0, .int .u32 0, .int .i64 0, .int .i64 0, .int .i64 0, .int .u32 0] 26)).setRow w3.heap.size #[.int .i64 0, .int .i64 0, .int .u32 0, .int .i64 0, .int .i64 0, .int .i64 0, .int .u32 0]).heap[w1.heap.size]? = some (.cells #[.int .i64 a, .int .i64 c, .int .u32 p, .int .i64 o, .int .i64 f, .int .i64 u, .int .u32 s] 26 (0, 0))) := row_below HR3.out hbs
      have HB4 : Hid (Below w0.heap.size w0 ((w3.alloc (.cells #[.int .i64 0, .int .i64 0, .int .u32 0, .int .i64 0, .int .i64 0, .int .i64 0, .int .u32 0] 26)).setRow w3.heap.size #[.int .i64 0, .int .i64 0, .int .u32 0, .int .i64 0, .int .i64 0, .int .i64 0, .int .u32 0])) := HB3.out.trans (hbs.mono HB3.out.size)
      clear hb3 hbs HB1 HR1 HB2 HR2 HB3 HR3
      go_wp2_with (first | (refine wpList_store_row rfl 26 (.tmp 5) (.tmp 16) rfl w3.heap.size #[.int .i64 0, .int .i64 0, .int .u32 0, .int .i64 0, .int .i64 0, .int .i64 0, .int .u32 0] rfl rfl 26 #[.int .i64 0, .int .i64 0, .int .u32 0, .int .i64 0, .int .i64 0, .int .i64 0, .int .u32 0] HN3.out (by kernel_rfl) rfl (by simp [Value.oneCell']) ?_; generalize ((w3.alloc (.cells #[.int .i64 0, .int .i64 0, .int .u32 0, .int .i64 0, .int .i64 0, .int .i64 0, .int .u32 0] 26)).setRow w3.heap.size #[.int .i64 0, .int .i64 0, .int .u32 0, .int .i64 0, .int .i64 0, .int .i64 0, .int .u32 0]) = U2 at HK HR4 HB4 ⊢) | (refine wpList_load_row rfl 26 (.tmp 3) rfl w1.heap.size rfl 26 #[.int .i64 a, .int .i64 c, .int .u32 p, .int .i64 o, .int .i64 f, .int .i64 u, .int .u32 s] (0, 0) _ HR4.out Tryd.underlying26 rfl (by kernel_rfl) ?_) | fail)
      refine Calls.mono (HS.out _) ?_
      rintro e w4 ⟨rfl, hb4⟩
      have HB5 : Hid (Below w0.heap.size w0 w4) := HB4.out.trans (hb4.mono HB4.out.size)
      have HK5 : Hid (w4.heap[w3.heap.size]? = some (.cells #[.int .i64 0, .int .i64 0, .int .u32 0, .int .i64 0, .int .i64 0, .int .i64 0, .int .u32 0] 26 (0, 0))) := row_below HK.out hb4
      have HR5 : Hid (w4.heap[w1.heap.size]? = some (.cells #[.int .i64 a, .int .i64 c, .int .u32 p, .int .i64 o, .int .i64 f, .int .i64 u, .int .u32 s] 26 (0, 0))) := row_below HR4.out hb4
      have e0 := row_c HR5.out 0 _ rfl
      have e3 := row_c HR5.out 3 _ rfl
      have e4 := row_c HR5.out 4 _ rfl
      have k3 := row_c HK5.out 3 _ rfl
      clear hb4 HB4 HK HR4 HN3
      go_wp2_with (first | (refine wpList_load_rowG rfl 26 (.tmp 5) rfl w3.heap.size rfl 26 #[.int .i64 0, .int .i64 0, .int .u32 0, .int .i64 0, .int .i64 0, .int .i64 0, .int .u32 0] (0, 0) _ HK5.out Tryd.underlying26 rfl (by kernel_rfl) ?_) | (refine wpList_load_rowG rfl 26 (.tmp 3) rfl w1.heap.size rfl 26 #[.int .i64 a, .int .i64 c, .int .u32 p, .int .i64 o, .int .i64 f, .int .i64 u, .int .u32 s] (0, 0) _ HR5.out Tryd.underlying26 rfl (by kernel_rfl) ?_) | fail)
      go_ret
      exact ⟨rfl, HB5.out⟩
    · by_cases HoH : 33 ≤ o
      · clear hG hfl
        have oL : decide (o < -1) = false := decide_eq_false HoL
        have oH : decide (33 ≤ o) = true := decide_eq_true HoH
        have HI : Hid (∀ X, Below w0.heap.size w0 X → Calls Tryd.prog 8 #[.agg #[.int .i64 a, .int .i64 c, .int .u32 p, .int .i64 o, .int .i64 f, .int .i64 u, .int .u32 s]] X fun e w' => e = .returned (.string T) ∧ Below X.heap.size X w') := hI
        have HO : Hid (∀ X, Below w0.heap.size w0 X → Calls Tryd.prog 10 #[.string T] X fun e w' => e = .returned (.tuple #[.agg #[.int .i64 0, .int .i64 0, .int .u32 0, .int .i64 0, .int .i64 0, .int .i64 0, .int .u32 0], .bool false]) ∧ Below X.heap.size X w') := hO
        have HS : Hid (∀ X, Calls Tryd.prog 6 #[.agg #[.int .i64 a, .int .i64 c, .int .u32 p, .int .i64 o, .int .i64 f, .int .i64 u, .int .u32 s]] X fun e w' => e = .returned (.string T) ∧ Below X.heap.size X w') := hS
        clear hI hO hS HoL HoH
        have HN1 : Hid ((w1.alloc (.cells #[.int .i64 0, .int .i64 0, .int .u32 0, .int .i64 0, .int .i64 0, .int .i64 0, .int .u32 0] 26)).heap[w1.heap.size]? = some (.cells #[.int .i64 0, .int .i64 0, .int .u32 0, .int .i64 0, .int .i64 0, .int .i64 0, .int .u32 0] 26 (0, 0))) := new_row w1 _ _ _ rfl
        have HR1 : Hid (((w1.alloc (.cells #[.int .i64 0, .int .i64 0, .int .u32 0, .int .i64 0, .int .i64 0, .int .i64 0, .int .u32 0] 26)).setRow w1.heap.size #[.int .i64 a, .int .i64 c, .int .u32 p, .int .i64 o, .int .i64 f, .int .i64 u, .int .u32 s]).heap[w1.heap.size]? = some (.cells #[.int .i64 a, .int .i64 c, .int .u32 p, .int .i64 o, .int .i64 f, .int .i64 u, .int .u32 s] 26 (0, 0))) := setRow_heap _ _ _ _ _ _ HN1.out
        have HB1 : Hid (Below w0.heap.size w0 ((w1.alloc (.cells #[.int .i64 0, .int .i64 0, .int .u32 0, .int .i64 0, .int .i64 0, .int .i64 0, .int .u32 0] 26)).setRow w1.heap.size #[.int .i64 a, .int .i64 c, .int .u32 p, .int .i64 o, .int .i64 f, .int .i64 u, .int .u32 s])) := HBD.out.trans ((below_setRow ((Below.refl w1.heap.size w1).alloc (Nat.le_refl _) _) (Nat.le_refl _) _).mono HBD.out.size)
        go_wp2_with (first | (refine wpList_store_row rfl 26 (.tmp 3) (.tmp 10) rfl w1.heap.size #[.int .i64 a, .int .i64 c, .int .u32 p, .int .i64 o, .int .i64 f, .int .i64 u, .int .u32 s] rfl rfl 26 #[.int .i64 0, .int .i64 0, .int .u32 0, .int .i64 0, .int .i64 0, .int .i64 0, .int .u32 0] HN1.out (by kernel_rfl) rfl (by simp [Value.oneCell']) ?_; generalize ((w1.alloc (.cells #[.int .i64 0, .int .i64 0, .int .u32 0, .int .i64 0, .int .i64 0, .int .i64 0, .int .u32 0] 26)).setRow w1.heap.size #[.int .i64 a, .int .i64 c, .int .u32 p, .int .i64 o, .int .i64 f, .int .i64 u, .int .u32 s]) = U1 at HR1 HB1 ⊢) | (refine wpList_load_row rfl 26 (.tmp 3) rfl w1.heap.size rfl 26 #[.int .i64 a, .int .i64 c, .int .u32 p, .int .i64 o, .int .i64 f, .int .i64 u, .int .u32 s] (0, 0) _ HR1.out Tryd.underlying26 rfl (by kernel_rfl) ?_) | fail)
        refine Calls.mono (HI.out _ HB1.out) ?_
        rintro e w2 ⟨rfl, hb2⟩
        have HB2 : Hid (Below w0.heap.size w0 w2) := HB1.out.trans (hb2.mono HB1.out.size)
        have HR2 : Hid (w2.heap[w1.heap.size]? = some (.cells #[.int .i64 a, .int .i64 c, .int .u32 p, .int .i64 o, .int .i64 f, .int .i64 u, .int .u32 s] 26 (0, 0))) := row_below HR1.out hb2
        clear hb2 HN1
        go_wp2_with fail
        refine Calls.mono (HO.out _ HB2.out) ?_
        rintro e w3 ⟨rfl, hb3⟩
        have HB3 : Hid (Below w0.heap.size w0 w3) := HB2.out.trans (hb3.mono HB2.out.size)
        have HR3 : Hid (w3.heap[w1.heap.size]? = some (.cells #[.int .i64 a, .int .i64 c, .int .u32 p, .int .i64 o, .int .i64 f, .int .i64 u, .int .u32 s] 26 (0, 0))) := row_below HR2.out hb3
        have HN3 : Hid ((w3.alloc (.cells #[.int .i64 0, .int .i64 0, .int .u32 0, .int .i64 0, .int .i64 0, .int .i64 0, .int .u32 0] 26)).heap[w3.heap.size]? = some (.cells #[.int .i64 0, .int .i64 0, .int .u32 0, .int .i64 0, .int .i64 0, .int .i64 0, .int .u32 0] 26 (0, 0))) := new_row w3 _ _ _ rfl
        have hbs : Below w3.heap.size w3 ((w3.alloc (.cells #[.int .i64 0, .int .i64 0, .int .u32 0, .int .i64 0, .int .i64 0, .int .i64 0, .int .u32 0] 26)).setRow w3.heap.size #[.int .i64 0, .int .i64 0, .int .u32 0, .int .i64 0, .int .i64 0, .int .i64 0, .int .u32 0]) := below_setRow ((Below.refl w3.heap.size w3).alloc (Nat.le_refl _) _) (Nat.le_refl _) _
        have HK : Hid (((w3.alloc (.cells #[.int .i64 0, .int .i64 0, .int .u32 0, .int .i64 0, .int .i64 0, .int .i64 0, .int .u32 0] 26)).setRow w3.heap.size #[.int .i64 0, .int .i64 0, .int .u32 0, .int .i64 0, .int .i64 0, .int .i64 0, .int .u32 0]).heap[w3.heap.size]? = some (.cells #[.int .i64 0, .int .i64 0, .int .u32 0, .int .i64 0, .int .i64 0, .int .i64 0, .int .u32 0] 26 (0, 0))) := setRow_heap _ _ _ _ _ _ HN3.out
        have HR4 : Hid (((w3.alloc (.cells #[.int .i64 0, .int .i64 0, .int .u32 0, .int .i64 0, .int .i64 0, .int .i64 0, .int .u32 0] 26)).setRow w3.heap.size #[.int .i64 0, .int .i64 0, .int .u32 0, .int .i64 0, .int .i64 0, .int .i64 0, .int .u32 0]).heap[w1.heap.size]? = some (.cells #[.int .i64 a, .int .i64 c, .int .u32 p, .int .i64 o, .int .i64 f, .int .i64 u, .int .u32 s] 26 (0, 0))) := row_below HR3.out hbs
        have HB4 : Hid (Below w0.heap.size w0 ((w3.alloc (.cells #[.int .i64 0, .int .i64 0, .int .u32 0, .int .i64 0, .int .i64 0, .int .i64 0, .int .u32 0] 26)).setRow w3.heap.size #[.int .i64 0, .int .i64 0, .int .u32 0, .int .i64 0, .int .i64 0, .int .i64 0, .int .u32 0])) := HB3.out.trans (hbs.mono HB3.out.size)
        clear hb3 hbs HB1 HR1 HB2 HR2 HB3 HR3
        go_wp2_with (first | (refine wpList_store_row rfl 26 (.tmp 5) (.tmp 16) rfl w3.heap.size #[.int .i64 0, .int .i64 0, .int .u32 0, .int .i64 0, .int .i64 0, .int .i64 0, .int .u32 0] rfl rfl 26 #[.int .i64 0, .int .i64 0, .int .u32 0, .int .i64 0, .int .i64 0, .int .i64 0, .int .u32 0] HN3.out (by kernel_rfl) rfl (by simp [Value.oneCell']) ?_; generalize ((w3.alloc (.cells #[.int .i64 0, .int .i64 0, .int .u32 0, .int .i64 0, .int .i64 0, .int .i64 0, .int .u32 0] 26)).setRow w3.heap.size #[.int .i64 0, .int .i64 0, .int .u32 0, .int .i64 0, .int .i64 0, .int .i64 0, .int .u32 0]) = U2 at HK HR4 HB4 ⊢) | (refine wpList_load_row rfl 26 (.tmp 3) rfl w1.heap.size rfl 26 #[.int .i64 a, .int .i64 c, .int .u32 p, .int .i64 o, .int .i64 f, .int .i64 u, .int .u32 s] (0, 0) _ HR4.out Tryd.underlying26 rfl (by kernel_rfl) ?_) | fail)
        refine Calls.mono (HS.out _) ?_
        rintro e w4 ⟨rfl, hb4⟩
        have HB5 : Hid (Below w0.heap.size w0 w4) := HB4.out.trans (hb4.mono HB4.out.size)
        have HK5 : Hid (w4.heap[w3.heap.size]? = some (.cells #[.int .i64 0, .int .i64 0, .int .u32 0, .int .i64 0, .int .i64 0, .int .i64 0, .int .u32 0] 26 (0, 0))) := row_below HK.out hb4
        have HR5 : Hid (w4.heap[w1.heap.size]? = some (.cells #[.int .i64 a, .int .i64 c, .int .u32 p, .int .i64 o, .int .i64 f, .int .i64 u, .int .u32 s] 26 (0, 0))) := row_below HR4.out hb4
        have e0 := row_c HR5.out 0 _ rfl
        have e3 := row_c HR5.out 3 _ rfl
        have e4 := row_c HR5.out 4 _ rfl
        have k3 := row_c HK5.out 3 _ rfl
        clear hb4 HB4 HK HR4 HN3
        go_wp2_with (first | (refine wpList_load_rowG rfl 26 (.tmp 5) rfl w3.heap.size rfl 26 #[.int .i64 0, .int .i64 0, .int .u32 0, .int .i64 0, .int .i64 0, .int .i64 0, .int .u32 0] (0, 0) _ HK5.out Tryd.underlying26 rfl (by kernel_rfl) ?_) | (refine wpList_load_rowG rfl 26 (.tmp 3) rfl w1.heap.size rfl 26 #[.int .i64 a, .int .i64 c, .int .u32 p, .int .i64 o, .int .i64 f, .int .i64 u, .int .u32 s] (0, 0) _ HR5.out Tryd.underlying26 rfl (by kernel_rfl) ?_) | fail)
        go_ret
        exact ⟨rfl, HB5.out⟩
      · by_cases HaL : a < -1000000
        · clear hG hfl
          have oL : decide (o < -1) = false := decide_eq_false HoL
          have oH : decide (33 ≤ o) = false := decide_eq_false HoH
          have aL : decide (a < -1000000) = true := decide_eq_true HaL
          have HI : Hid (∀ X, Below w0.heap.size w0 X → Calls Tryd.prog 8 #[.agg #[.int .i64 a, .int .i64 c, .int .u32 p, .int .i64 o, .int .i64 f, .int .i64 u, .int .u32 s]] X fun e w' => e = .returned (.string T) ∧ Below X.heap.size X w') := hI
          have HO : Hid (∀ X, Below w0.heap.size w0 X → Calls Tryd.prog 10 #[.string T] X fun e w' => e = .returned (.tuple #[.agg #[.int .i64 0, .int .i64 0, .int .u32 0, .int .i64 0, .int .i64 0, .int .i64 0, .int .u32 0], .bool false]) ∧ Below X.heap.size X w') := hO
          have HS : Hid (∀ X, Calls Tryd.prog 6 #[.agg #[.int .i64 a, .int .i64 c, .int .u32 p, .int .i64 o, .int .i64 f, .int .i64 u, .int .u32 s]] X fun e w' => e = .returned (.string T) ∧ Below X.heap.size X w') := hS
          clear hI hO hS HoL HoH HaL
          have HN1 : Hid ((w1.alloc (.cells #[.int .i64 0, .int .i64 0, .int .u32 0, .int .i64 0, .int .i64 0, .int .i64 0, .int .u32 0] 26)).heap[w1.heap.size]? = some (.cells #[.int .i64 0, .int .i64 0, .int .u32 0, .int .i64 0, .int .i64 0, .int .i64 0, .int .u32 0] 26 (0, 0))) := new_row w1 _ _ _ rfl
          have HR1 : Hid (((w1.alloc (.cells #[.int .i64 0, .int .i64 0, .int .u32 0, .int .i64 0, .int .i64 0, .int .i64 0, .int .u32 0] 26)).setRow w1.heap.size #[.int .i64 a, .int .i64 c, .int .u32 p, .int .i64 o, .int .i64 f, .int .i64 u, .int .u32 s]).heap[w1.heap.size]? = some (.cells #[.int .i64 a, .int .i64 c, .int .u32 p, .int .i64 o, .int .i64 f, .int .i64 u, .int .u32 s] 26 (0, 0))) := setRow_heap _ _ _ _ _ _ HN1.out
          have HB1 : Hid (Below w0.heap.size w0 ((w1.alloc (.cells #[.int .i64 0, .int .i64 0, .int .u32 0, .int .i64 0, .int .i64 0, .int .i64 0, .int .u32 0] 26)).setRow w1.heap.size #[.int .i64 a, .int .i64 c, .int .u32 p, .int .i64 o, .int .i64 f, .int .i64 u, .int .u32 s])) := HBD.out.trans ((below_setRow ((Below.refl w1.heap.size w1).alloc (Nat.le_refl _) _) (Nat.le_refl _) _).mono HBD.out.size)
          go_wp2_with (first | (refine wpList_store_row rfl 26 (.tmp 3) (.tmp 10) rfl w1.heap.size #[.int .i64 a, .int .i64 c, .int .u32 p, .int .i64 o, .int .i64 f, .int .i64 u, .int .u32 s] rfl rfl 26 #[.int .i64 0, .int .i64 0, .int .u32 0, .int .i64 0, .int .i64 0, .int .i64 0, .int .u32 0] HN1.out (by kernel_rfl) rfl (by simp [Value.oneCell']) ?_; generalize ((w1.alloc (.cells #[.int .i64 0, .int .i64 0, .int .u32 0, .int .i64 0, .int .i64 0, .int .i64 0, .int .u32 0] 26)).setRow w1.heap.size #[.int .i64 a, .int .i64 c, .int .u32 p, .int .i64 o, .int .i64 f, .int .i64 u, .int .u32 s]) = U1 at HR1 HB1 ⊢) | (refine wpList_load_row rfl 26 (.tmp 3) rfl w1.heap.size rfl 26 #[.int .i64 a, .int .i64 c, .int .u32 p, .int .i64 o, .int .i64 f, .int .i64 u, .int .u32 s] (0, 0) _ HR1.out Tryd.underlying26 rfl (by kernel_rfl) ?_) | fail)
          refine Calls.mono (HI.out _ HB1.out) ?_
          rintro e w2 ⟨rfl, hb2⟩
          have HB2 : Hid (Below w0.heap.size w0 w2) := HB1.out.trans (hb2.mono HB1.out.size)
          have HR2 : Hid (w2.heap[w1.heap.size]? = some (.cells #[.int .i64 a, .int .i64 c, .int .u32 p, .int .i64 o, .int .i64 f, .int .i64 u, .int .u32 s] 26 (0, 0))) := row_below HR1.out hb2
          clear hb2 HN1
          go_wp2_with fail
          refine Calls.mono (HO.out _ HB2.out) ?_
          rintro e w3 ⟨rfl, hb3⟩
          have HB3 : Hid (Below w0.heap.size w0 w3) := HB2.out.trans (hb3.mono HB2.out.size)
          have HR3 : Hid (w3.heap[w1.heap.size]? = some (.cells #[.int .i64 a, .int .i64 c, .int .u32 p, .int .i64 o, .int .i64 f, .int .i64 u, .int .u32 s] 26 (0, 0))) := row_below HR2.out hb3
          have HN3 : Hid ((w3.alloc (.cells #[.int .i64 0, .int .i64 0, .int .u32 0, .int .i64 0, .int .i64 0, .int .i64 0, .int .u32 0] 26)).heap[w3.heap.size]? = some (.cells #[.int .i64 0, .int .i64 0, .int .u32 0, .int .i64 0, .int .i64 0, .int .i64 0, .int .u32 0] 26 (0, 0))) := new_row w3 _ _ _ rfl
          have hbs : Below w3.heap.size w3 ((w3.alloc (.cells #[.int .i64 0, .int .i64 0, .int .u32 0, .int .i64 0, .int .i64 0, .int .i64 0, .int .u32 0] 26)).setRow w3.heap.size #[.int .i64 0, .int .i64 0, .int .u32 0, .int .i64 0, .int .i64 0, .int .i64 0, .int .u32 0]) := below_setRow ((Below.refl w3.heap.size w3).alloc (Nat.le_refl _) _) (Nat.le_refl _) _
          have HK : Hid (((w3.alloc (.cells #[.int .i64 0, .int .i64 0, .int .u32 0, .int .i64 0, .int .i64 0, .int .i64 0, .int .u32 0] 26)).setRow w3.heap.size #[.int .i64 0, .int .i64 0, .int .u32 0, .int .i64 0, .int .i64 0, .int .i64 0, .int .u32 0]).heap[w3.heap.size]? = some (.cells #[.int .i64 0, .int .i64 0, .int .u32 0, .int .i64 0, .int .i64 0, .int .i64 0, .int .u32 0] 26 (0, 0))) := setRow_heap _ _ _ _ _ _ HN3.out
          have HR4 : Hid (((w3.alloc (.cells #[.int .i64 0, .int .i64 0, .int .u32 0, .int .i64 0, .int .i64 0, .int .i64 0, .int .u32 0] 26)).setRow w3.heap.size #[.int .i64 0, .int .i64 0, .int .u32 0, .int .i64 0, .int .i64 0, .int .i64 0, .int .u32 0]).heap[w1.heap.size]? = some (.cells #[.int .i64 a, .int .i64 c, .int .u32 p, .int .i64 o, .int .i64 f, .int .i64 u, .int .u32 s] 26 (0, 0))) := row_below HR3.out hbs
          have HB4 : Hid (Below w0.heap.size w0 ((w3.alloc (.cells #[.int .i64 0, .int .i64 0, .int .u32 0, .int .i64 0, .int .i64 0, .int .i64 0, .int .u32 0] 26)).setRow w3.heap.size #[.int .i64 0, .int .i64 0, .int .u32 0, .int .i64 0, .int .i64 0, .int .i64 0, .int .u32 0])) := HB3.out.trans (hbs.mono HB3.out.size)
          clear hb3 hbs HB1 HR1 HB2 HR2 HB3 HR3
          go_wp2_with (first | (refine wpList_store_row rfl 26 (.tmp 5) (.tmp 16) rfl w3.heap.size #[.int .i64 0, .int .i64 0, .int .u32 0, .int .i64 0, .int .i64 0, .int .i64 0, .int .u32 0] rfl rfl 26 #[.int .i64 0, .int .i64 0, .int .u32 0, .int .i64 0, .int .i64 0, .int .i64 0, .int .u32 0] HN3.out (by kernel_rfl) rfl (by simp [Value.oneCell']) ?_; generalize ((w3.alloc (.cells #[.int .i64 0, .int .i64 0, .int .u32 0, .int .i64 0, .int .i64 0, .int .i64 0, .int .u32 0] 26)).setRow w3.heap.size #[.int .i64 0, .int .i64 0, .int .u32 0, .int .i64 0, .int .i64 0, .int .i64 0, .int .u32 0]) = U2 at HK HR4 HB4 ⊢) | (refine wpList_load_row rfl 26 (.tmp 3) rfl w1.heap.size rfl 26 #[.int .i64 a, .int .i64 c, .int .u32 p, .int .i64 o, .int .i64 f, .int .i64 u, .int .u32 s] (0, 0) _ HR4.out Tryd.underlying26 rfl (by kernel_rfl) ?_) | fail)
          refine Calls.mono (HS.out _) ?_
          rintro e w4 ⟨rfl, hb4⟩
          have HB5 : Hid (Below w0.heap.size w0 w4) := HB4.out.trans (hb4.mono HB4.out.size)
          have HK5 : Hid (w4.heap[w3.heap.size]? = some (.cells #[.int .i64 0, .int .i64 0, .int .u32 0, .int .i64 0, .int .i64 0, .int .i64 0, .int .u32 0] 26 (0, 0))) := row_below HK.out hb4
          have HR5 : Hid (w4.heap[w1.heap.size]? = some (.cells #[.int .i64 a, .int .i64 c, .int .u32 p, .int .i64 o, .int .i64 f, .int .i64 u, .int .u32 s] 26 (0, 0))) := row_below HR4.out hb4
          have e0 := row_c HR5.out 0 _ rfl
          have e3 := row_c HR5.out 3 _ rfl
          have e4 := row_c HR5.out 4 _ rfl
          have k3 := row_c HK5.out 3 _ rfl
          clear hb4 HB4 HK HR4 HN3
          go_wp2_with (first | (refine wpList_load_rowG rfl 26 (.tmp 5) rfl w3.heap.size rfl 26 #[.int .i64 0, .int .i64 0, .int .u32 0, .int .i64 0, .int .i64 0, .int .i64 0, .int .u32 0] (0, 0) _ HK5.out Tryd.underlying26 rfl (by kernel_rfl) ?_) | (refine wpList_load_rowG rfl 26 (.tmp 3) rfl w1.heap.size rfl 26 #[.int .i64 a, .int .i64 c, .int .u32 p, .int .i64 o, .int .i64 f, .int .i64 u, .int .u32 s] (0, 0) _ HR5.out Tryd.underlying26 rfl (by kernel_rfl) ?_) | fail)
          go_ret
          exact ⟨rfl, HB5.out⟩
        · by_cases HaH : 1000000 < a
          · clear hG hfl
            have oL : decide (o < -1) = false := decide_eq_false HoL
            have oH : decide (33 ≤ o) = false := decide_eq_false HoH
            have aL : decide (a < -1000000) = false := decide_eq_false HaL
            have aH : decide ((1000000 : Int) < a) = true := decide_eq_true HaH
            have HI : Hid (∀ X, Below w0.heap.size w0 X → Calls Tryd.prog 8 #[.agg #[.int .i64 a, .int .i64 c, .int .u32 p, .int .i64 o, .int .i64 f, .int .i64 u, .int .u32 s]] X fun e w' => e = .returned (.string T) ∧ Below X.heap.size X w') := hI
            have HO : Hid (∀ X, Below w0.heap.size w0 X → Calls Tryd.prog 10 #[.string T] X fun e w' => e = .returned (.tuple #[.agg #[.int .i64 0, .int .i64 0, .int .u32 0, .int .i64 0, .int .i64 0, .int .i64 0, .int .u32 0], .bool false]) ∧ Below X.heap.size X w') := hO
            have HS : Hid (∀ X, Calls Tryd.prog 6 #[.agg #[.int .i64 a, .int .i64 c, .int .u32 p, .int .i64 o, .int .i64 f, .int .i64 u, .int .u32 s]] X fun e w' => e = .returned (.string T) ∧ Below X.heap.size X w') := hS
            clear hI hO hS HoL HoH HaL HaH
            have HN1 : Hid ((w1.alloc (.cells #[.int .i64 0, .int .i64 0, .int .u32 0, .int .i64 0, .int .i64 0, .int .i64 0, .int .u32 0] 26)).heap[w1.heap.size]? = some (.cells #[.int .i64 0, .int .i64 0, .int .u32 0, .int .i64 0, .int .i64 0, .int .i64 0, .int .u32 0] 26 (0, 0))) := new_row w1 _ _ _ rfl
            have HR1 : Hid (((w1.alloc (.cells #[.int .i64 0, .int .i64 0, .int .u32 0, .int .i64 0, .int .i64 0, .int .i64 0, .int .u32 0] 26)).setRow w1.heap.size #[.int .i64 a, .int .i64 c, .int .u32 p, .int .i64 o, .int .i64 f, .int .i64 u, .int .u32 s]).heap[w1.heap.size]? = some (.cells #[.int .i64 a, .int .i64 c, .int .u32 p, .int .i64 o, .int .i64 f, .int .i64 u, .int .u32 s] 26 (0, 0))) := setRow_heap _ _ _ _ _ _ HN1.out
            have HB1 : Hid (Below w0.heap.size w0 ((w1.alloc (.cells #[.int .i64 0, .int .i64 0, .int .u32 0, .int .i64 0, .int .i64 0, .int .i64 0, .int .u32 0] 26)).setRow w1.heap.size #[.int .i64 a, .int .i64 c, .int .u32 p, .int .i64 o, .int .i64 f, .int .i64 u, .int .u32 s])) := HBD.out.trans ((below_setRow ((Below.refl w1.heap.size w1).alloc (Nat.le_refl _) _) (Nat.le_refl _) _).mono HBD.out.size)
            go_wp2_with (first | (refine wpList_store_row rfl 26 (.tmp 3) (.tmp 10) rfl w1.heap.size #[.int .i64 a, .int .i64 c, .int .u32 p, .int .i64 o, .int .i64 f, .int .i64 u, .int .u32 s] rfl rfl 26 #[.int .i64 0, .int .i64 0, .int .u32 0, .int .i64 0, .int .i64 0, .int .i64 0, .int .u32 0] HN1.out (by kernel_rfl) rfl (by simp [Value.oneCell']) ?_; generalize ((w1.alloc (.cells #[.int .i64 0, .int .i64 0, .int .u32 0, .int .i64 0, .int .i64 0, .int .i64 0, .int .u32 0] 26)).setRow w1.heap.size #[.int .i64 a, .int .i64 c, .int .u32 p, .int .i64 o, .int .i64 f, .int .i64 u, .int .u32 s]) = U1 at HR1 HB1 ⊢) | (refine wpList_load_row rfl 26 (.tmp 3) rfl w1.heap.size rfl 26 #[.int .i64 a, .int .i64 c, .int .u32 p, .int .i64 o, .int .i64 f, .int .i64 u, .int .u32 s] (0, 0) _ HR1.out Tryd.underlying26 rfl (by kernel_rfl) ?_) | fail)
            refine Calls.mono (HI.out _ HB1.out) ?_
            rintro e w2 ⟨rfl, hb2⟩
            have HB2 : Hid (Below w0.heap.size w0 w2) := HB1.out.trans (hb2.mono HB1.out.size)
            have HR2 : Hid (w2.heap[w1.heap.size]? = some (.cells #[.int .i64 a, .int .i64 c, .int .u32 p, .int .i64 o, .int .i64 f, .int .i64 u, .int .u32 s] 26 (0, 0))) := row_below HR1.out hb2
            clear hb2 HN1
            go_wp2_with fail
            refine Calls.mono (HO.out _ HB2.out) ?_
            rintro e w3 ⟨rfl, hb3⟩
            have HB3 : Hid (Below w0.heap.size w0 w3) := HB2.out.trans (hb3.mono HB2.out.size)
            have HR3 : Hid (w3.heap[w1.heap.size]? = some (.cells #[.int .i64 a, .int .i64 c, .int .u32 p, .int .i64 o, .int .i64 f, .int .i64 u, .int .u32 s] 26 (0, 0))) := row_below HR2.out hb3
            have HN3 : Hid ((w3.alloc (.cells #[.int .i64 0, .int .i64 0, .int .u32 0, .int .i64 0, .int .i64 0, .int .i64 0, .int .u32 0] 26)).heap[w3.heap.size]? = some (.cells #[.int .i64 0, .int .i64 0, .int .u32 0, .int .i64 0, .int .i64 0, .int .i64 0, .int .u32 0] 26 (0, 0))) := new_row w3 _ _ _ rfl
            have hbs : Below w3.heap.size w3 ((w3.alloc (.cells #[.int .i64 0, .int .i64 0, .int .u32 0, .int .i64 0, .int .i64 0, .int .i64 0, .int .u32 0] 26)).setRow w3.heap.size #[.int .i64 0, .int .i64 0, .int .u32 0, .int .i64 0, .int .i64 0, .int .i64 0, .int .u32 0]) := below_setRow ((Below.refl w3.heap.size w3).alloc (Nat.le_refl _) _) (Nat.le_refl _) _
            have HK : Hid (((w3.alloc (.cells #[.int .i64 0, .int .i64 0, .int .u32 0, .int .i64 0, .int .i64 0, .int .i64 0, .int .u32 0] 26)).setRow w3.heap.size #[.int .i64 0, .int .i64 0, .int .u32 0, .int .i64 0, .int .i64 0, .int .i64 0, .int .u32 0]).heap[w3.heap.size]? = some (.cells #[.int .i64 0, .int .i64 0, .int .u32 0, .int .i64 0, .int .i64 0, .int .i64 0, .int .u32 0] 26 (0, 0))) := setRow_heap _ _ _ _ _ _ HN3.out
            have HR4 : Hid (((w3.alloc (.cells #[.int .i64 0, .int .i64 0, .int .u32 0, .int .i64 0, .int .i64 0, .int .i64 0, .int .u32 0] 26)).setRow w3.heap.size #[.int .i64 0, .int .i64 0, .int .u32 0, .int .i64 0, .int .i64 0, .int .i64 0, .int .u32 0]).heap[w1.heap.size]? = some (.cells #[.int .i64 a, .int .i64 c, .int .u32 p, .int .i64 o, .int .i64 f, .int .i64 u, .int .u32 s] 26 (0, 0))) := row_below HR3.out hbs
            have HB4 : Hid (Below w0.heap.size w0 ((w3.alloc (.cells #[.int .i64 0, .int .i64 0, .int .u32 0, .int .i64 0, .int .i64 0, .int .i64 0, .int .u32 0] 26)).setRow w3.heap.size #[.int .i64 0, .int .i64 0, .int .u32 0, .int .i64 0, .int .i64 0, .int .i64 0, .int .u32 0])) := HB3.out.trans (hbs.mono HB3.out.size)
            clear hb3 hbs HB1 HR1 HB2 HR2 HB3 HR3
            go_wp2_with (first | (refine wpList_store_row rfl 26 (.tmp 5) (.tmp 16) rfl w3.heap.size #[.int .i64 0, .int .i64 0, .int .u32 0, .int .i64 0, .int .i64 0, .int .i64 0, .int .u32 0] rfl rfl 26 #[.int .i64 0, .int .i64 0, .int .u32 0, .int .i64 0, .int .i64 0, .int .i64 0, .int .u32 0] HN3.out (by kernel_rfl) rfl (by simp [Value.oneCell']) ?_; generalize ((w3.alloc (.cells #[.int .i64 0, .int .i64 0, .int .u32 0, .int .i64 0, .int .i64 0, .int .i64 0, .int .u32 0] 26)).setRow w3.heap.size #[.int .i64 0, .int .i64 0, .int .u32 0, .int .i64 0, .int .i64 0, .int .i64 0, .int .u32 0]) = U2 at HK HR4 HB4 ⊢) | (refine wpList_load_row rfl 26 (.tmp 3) rfl w1.heap.size rfl 26 #[.int .i64 a, .int .i64 c, .int .u32 p, .int .i64 o, .int .i64 f, .int .i64 u, .int .u32 s] (0, 0) _ HR4.out Tryd.underlying26 rfl (by kernel_rfl) ?_) | fail)
            refine Calls.mono (HS.out _) ?_
            rintro e w4 ⟨rfl, hb4⟩
            have HB5 : Hid (Below w0.heap.size w0 w4) := HB4.out.trans (hb4.mono HB4.out.size)
            have HK5 : Hid (w4.heap[w3.heap.size]? = some (.cells #[.int .i64 0, .int .i64 0, .int .u32 0, .int .i64 0, .int .i64 0, .int .i64 0, .int .u32 0] 26 (0, 0))) := row_below HK.out hb4
            have HR5 : Hid (w4.heap[w1.heap.size]? = some (.cells #[.int .i64 a, .int .i64 c, .int .u32 p, .int .i64 o, .int .i64 f, .int .i64 u, .int .u32 s] 26 (0, 0))) := row_below HR4.out hb4
            have e0 := row_c HR5.out 0 _ rfl
            have e3 := row_c HR5.out 3 _ rfl
            have e4 := row_c HR5.out 4 _ rfl
            have k3 := row_c HK5.out 3 _ rfl
            clear hb4 HB4 HK HR4 HN3
            go_wp2_with (first | (refine wpList_load_rowG rfl 26 (.tmp 5) rfl w3.heap.size rfl 26 #[.int .i64 0, .int .i64 0, .int .u32 0, .int .i64 0, .int .i64 0, .int .i64 0, .int .u32 0] (0, 0) _ HK5.out Tryd.underlying26 rfl (by kernel_rfl) ?_) | (refine wpList_load_rowG rfl 26 (.tmp 3) rfl w1.heap.size rfl 26 #[.int .i64 a, .int .i64 c, .int .u32 p, .int .i64 o, .int .i64 f, .int .i64 u, .int .u32 s] (0, 0) _ HR5.out Tryd.underlying26 rfl (by kernel_rfl) ?_) | fail)
            go_ret
            exact ⟨rfl, HB5.out⟩
          · have HfH : 1000000 < f := by omega
            clear hG hfl
            have oL : decide (o < -1) = false := decide_eq_false HoL
            have oH : decide (33 ≤ o) = false := decide_eq_false HoH
            have aL : decide (a < -1000000) = false := decide_eq_false HaL
            have aH : decide ((1000000 : Int) < a) = false := decide_eq_false HaH
            have fH : decide ((1000000 : Int) < f) = true := decide_eq_true HfH
            have HI : Hid (∀ X, Below w0.heap.size w0 X → Calls Tryd.prog 8 #[.agg #[.int .i64 a, .int .i64 c, .int .u32 p, .int .i64 o, .int .i64 f, .int .i64 u, .int .u32 s]] X fun e w' => e = .returned (.string T) ∧ Below X.heap.size X w') := hI
            have HO : Hid (∀ X, Below w0.heap.size w0 X → Calls Tryd.prog 10 #[.string T] X fun e w' => e = .returned (.tuple #[.agg #[.int .i64 0, .int .i64 0, .int .u32 0, .int .i64 0, .int .i64 0, .int .i64 0, .int .u32 0], .bool false]) ∧ Below X.heap.size X w') := hO
            have HS : Hid (∀ X, Calls Tryd.prog 6 #[.agg #[.int .i64 a, .int .i64 c, .int .u32 p, .int .i64 o, .int .i64 f, .int .i64 u, .int .u32 s]] X fun e w' => e = .returned (.string T) ∧ Below X.heap.size X w') := hS
            clear hI hO hS HoL HoH HaL HaH HfH
            have HN1 : Hid ((w1.alloc (.cells #[.int .i64 0, .int .i64 0, .int .u32 0, .int .i64 0, .int .i64 0, .int .i64 0, .int .u32 0] 26)).heap[w1.heap.size]? = some (.cells #[.int .i64 0, .int .i64 0, .int .u32 0, .int .i64 0, .int .i64 0, .int .i64 0, .int .u32 0] 26 (0, 0))) := new_row w1 _ _ _ rfl
            have HR1 : Hid (((w1.alloc (.cells #[.int .i64 0, .int .i64 0, .int .u32 0, .int .i64 0, .int .i64 0, .int .i64 0, .int .u32 0] 26)).setRow w1.heap.size #[.int .i64 a, .int .i64 c, .int .u32 p, .int .i64 o, .int .i64 f, .int .i64 u, .int .u32 s]).heap[w1.heap.size]? = some (.cells #[.int .i64 a, .int .i64 c, .int .u32 p, .int .i64 o, .int .i64 f, .int .i64 u, .int .u32 s] 26 (0, 0))) := setRow_heap _ _ _ _ _ _ HN1.out
            have HB1 : Hid (Below w0.heap.size w0 ((w1.alloc (.cells #[.int .i64 0, .int .i64 0, .int .u32 0, .int .i64 0, .int .i64 0, .int .i64 0, .int .u32 0] 26)).setRow w1.heap.size #[.int .i64 a, .int .i64 c, .int .u32 p, .int .i64 o, .int .i64 f, .int .i64 u, .int .u32 s])) := HBD.out.trans ((below_setRow ((Below.refl w1.heap.size w1).alloc (Nat.le_refl _) _) (Nat.le_refl _) _).mono HBD.out.size)
            go_wp2_with (first | (refine wpList_store_row rfl 26 (.tmp 3) (.tmp 10) rfl w1.heap.size #[.int .i64 a, .int .i64 c, .int .u32 p, .int .i64 o, .int .i64 f, .int .i64 u, .int .u32 s] rfl rfl 26 #[.int .i64 0, .int .i64 0, .int .u32 0, .int .i64 0, .int .i64 0, .int .i64 0, .int .u32 0] HN1.out (by kernel_rfl) rfl (by simp [Value.oneCell']) ?_; generalize ((w1.alloc (.cells #[.int .i64 0, .int .i64 0, .int .u32 0, .int .i64 0, .int .i64 0, .int .i64 0, .int .u32 0] 26)).setRow w1.heap.size #[.int .i64 a, .int .i64 c, .int .u32 p, .int .i64 o, .int .i64 f, .int .i64 u, .int .u32 s]) = U1 at HR1 HB1 ⊢) | (refine wpList_load_row rfl 26 (.tmp 3) rfl w1.heap.size rfl 26 #[.int .i64 a, .int .i64 c, .int .u32 p, .int .i64 o, .int .i64 f, .int .i64 u, .int .u32 s] (0, 0) _ HR1.out Tryd.underlying26 rfl (by kernel_rfl) ?_) | fail)
            refine Calls.mono (HI.out _ HB1.out) ?_
            rintro e w2 ⟨rfl, hb2⟩
            have HB2 : Hid (Below w0.heap.size w0 w2) := HB1.out.trans (hb2.mono HB1.out.size)
            have HR2 : Hid (w2.heap[w1.heap.size]? = some (.cells #[.int .i64 a, .int .i64 c, .int .u32 p, .int .i64 o, .int .i64 f, .int .i64 u, .int .u32 s] 26 (0, 0))) := row_below HR1.out hb2
            clear hb2 HN1
            go_wp2_with fail
            refine Calls.mono (HO.out _ HB2.out) ?_
            rintro e w3 ⟨rfl, hb3⟩
            have HB3 : Hid (Below w0.heap.size w0 w3) := HB2.out.trans (hb3.mono HB2.out.size)
            have HR3 : Hid (w3.heap[w1.heap.size]? = some (.cells #[.int .i64 a, .int .i64 c, .int .u32 p, .int .i64 o, .int .i64 f, .int .i64 u, .int .u32 s] 26 (0, 0))) := row_below HR2.out hb3
            have HN3 : Hid ((w3.alloc (.cells #[.int .i64 0, .int .i64 0, .int .u32 0, .int .i64 0, .int .i64 0, .int .i64 0, .int .u32 0] 26)).heap[w3.heap.size]? = some (.cells #[.int .i64 0, .int .i64 0, .int .u32 0, .int .i64 0, .int .i64 0, .int .i64 0, .int .u32 0] 26 (0, 0))) := new_row w3 _ _ _ rfl
            have hbs : Below w3.heap.size w3 ((w3.alloc (.cells #[.int .i64 0, .int .i64 0, .int .u32 0, .int .i64 0, .int .i64 0, .int .i64 0, .int .u32 0] 26)).setRow w3.heap.size #[.int .i64 0, .int .i64 0, .int .u32 0, .int .i64 0, .int .i64 0, .int .i64 0, .int .u32 0]) := below_setRow ((Below.refl w3.heap.size w3).alloc (Nat.le_refl _) _) (Nat.le_refl _) _
            have HK : Hid (((w3.alloc (.cells #[.int .i64 0, .int .i64 0, .int .u32 0, .int .i64 0, .int .i64 0, .int .i64 0, .int .u32 0] 26)).setRow w3.heap.size #[.int .i64 0, .int .i64 0, .int .u32 0, .int .i64 0, .int .i64 0, .int .i64 0, .int .u32 0]).heap[w3.heap.size]? = some (.cells #[.int .i64 0, .int .i64 0, .int .u32 0, .int .i64 0, .int .i64 0, .int .i64 0, .int .u32 0] 26 (0, 0))) := setRow_heap _ _ _ _ _ _ HN3.out
            have HR4 : Hid (((w3.alloc (.cells #[.int .i64 0, .int .i64 0, .int .u32 0, .int .i64 0, .int .i64 0, .int .i64 0, .int .u32 0] 26)).setRow w3.heap.size #[.int .i64 0, .int .i64 0, .int .u32 0, .int .i64 0, .int .i64 0, .int .i64 0, .int .u32 0]).heap[w1.heap.size]? = some (.cells #[.int .i64 a, .int .i64 c, .int .u32 p, .int .i64 o, .int .i64 f, .int .i64 u, .int .u32 s] 26 (0, 0))) := row_below HR3.out hbs
            have HB4 : Hid (Below w0.heap.size w0 ((w3.alloc (.cells #[.int .i64 0, .int .i64 0, .int .u32 0, .int .i64 0, .int .i64 0, .int .i64 0, .int .u32 0] 26)).setRow w3.heap.size #[.int .i64 0, .int .i64 0, .int .u32 0, .int .i64 0, .int .i64 0, .int .i64 0, .int .u32 0])) := HB3.out.trans (hbs.mono HB3.out.size)
            clear hb3 hbs HB1 HR1 HB2 HR2 HB3 HR3
            go_wp2_with (first | (refine wpList_store_row rfl 26 (.tmp 5) (.tmp 16) rfl w3.heap.size #[.int .i64 0, .int .i64 0, .int .u32 0, .int .i64 0, .int .i64 0, .int .i64 0, .int .u32 0] rfl rfl 26 #[.int .i64 0, .int .i64 0, .int .u32 0, .int .i64 0, .int .i64 0, .int .i64 0, .int .u32 0] HN3.out (by kernel_rfl) rfl (by simp [Value.oneCell']) ?_; generalize ((w3.alloc (.cells #[.int .i64 0, .int .i64 0, .int .u32 0, .int .i64 0, .int .i64 0, .int .i64 0, .int .u32 0] 26)).setRow w3.heap.size #[.int .i64 0, .int .i64 0, .int .u32 0, .int .i64 0, .int .i64 0, .int .i64 0, .int .u32 0]) = U2 at HK HR4 HB4 ⊢) | (refine wpList_load_row rfl 26 (.tmp 3) rfl w1.heap.size rfl 26 #[.int .i64 a, .int .i64 c, .int .u32 p, .int .i64 o, .int .i64 f, .int .i64 u, .int .u32 s] (0, 0) _ HR4.out Tryd.underlying26 rfl (by kernel_rfl) ?_) | fail)
            refine Calls.mono (HS.out _) ?_
            rintro e w4 ⟨rfl, hb4⟩
            have HB5 : Hid (Below w0.heap.size w0 w4) := HB4.out.trans (hb4.mono HB4.out.size)
            have HK5 : Hid (w4.heap[w3.heap.size]? = some (.cells #[.int .i64 0, .int .i64 0, .int .u32 0, .int .i64 0, .int .i64 0, .int .i64 0, .int .u32 0] 26 (0, 0))) := row_below HK.out hb4
            have HR5 : Hid (w4.heap[w1.heap.size]? = some (.cells #[.int .i64 a, .int .i64 c, .int .u32 p, .int .i64 o, .int .i64 f, .int .i64 u, .int .u32 s] 26 (0, 0))) := row_below HR4.out hb4
            have e0 := row_c HR5.out 0 _ rfl
            have e3 := row_c HR5.out 3 _ rfl
            have e4 := row_c HR5.out 4 _ rfl
            have k3 := row_c HK5.out 3 _ rfl
            clear hb4 HB4 HK HR4 HN3
            go_wp2_with (first | (refine wpList_load_rowG rfl 26 (.tmp 5) rfl w3.heap.size rfl 26 #[.int .i64 0, .int .i64 0, .int .u32 0, .int .i64 0, .int .i64 0, .int .i64 0, .int .u32 0] (0, 0) _ HK5.out Tryd.underlying26 rfl (by kernel_rfl) ?_) | (refine wpList_load_rowG rfl 26 (.tmp 3) rfl w1.heap.size rfl 26 #[.int .i64 a, .int .i64 c, .int .u32 p, .int .i64 o, .int .i64 f, .int .i64 u, .int .u32 s] (0, 0) _ HR5.out Tryd.underlying26 rfl (by kernel_rfl) ?_) | fail)
            go_ret
            exact ⟨rfl, HB5.out⟩
end Go.Proofs.YthlapikcjiajgaaDoor
