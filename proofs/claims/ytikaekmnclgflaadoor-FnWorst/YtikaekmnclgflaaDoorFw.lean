/-
  The law FnWorst returns true. Conditions: the program's table of extras lies in memory as the program's text lays it; at most 1048576 bytes are drawn from, else the law returns true at once.
-/
import Derived.Test.YtikaekmnclgflaaDoorDaw
import Derived.Test.YtikaekmnclgflaaDoorWst
namespace Go.Proofs.YtikaekmnclgflaaDoor
open Go.ChangeShapes Go.WideShapes Go.ChangeAt Go.RowKit Go.Deep
set_option linter.unusedVariables false
set_option maxRecDepth 20000

theorem big_no (a : Option Addr) (n cap : Nat) (w : World) (hn : n ≤ 1048576) : Calls Tryd.prog 6 #[.slice a n cap] w fun e w' => e = .returned (.bool false) ∧ w' = w := by
  have hn' : ¬ (1048576 : Int) < (n : Int) := by omega
  go_enter Tryd.func6, Tryd.ntmps6
  go_wp2
  go_ret
  exact ⟨rfl, rfl⟩
theorem big_yes (a : Option Addr) (n cap : Nat) (w : World) (hn : ¬ n ≤ 1048576) : Calls Tryd.prog 6 #[.slice a n cap] w fun e w' => e = .returned (.bool true) ∧ w' = w := by
  have hn' : (1048576 : Int) < (n : Int) := by omega
  go_enter Tryd.func6, Tryd.ntmps6
  go_wp2
  go_ret
  exact ⟨rfl, rfl⟩
/-- Some op costs the most. -/
theorem most_met {b m e s k t l : Int} (hok : costsOk b m e s k t l = true) : ∃ n, n < 33 ∧ opC b m e t n = mostOp b m e t := by
  rcases most_is_in (ocs b m e t 33) 0 with h | h
  · have := most_mem (ocs b m e t 33) 0 (opC b m e t 0) (List.mem_map.2 ⟨0, by simp, rfl⟩)
    have := (opC_range hok 0).1
    omega
  · unfold ocs at h
    obtain ⟨i, hi, e⟩ := List.mem_map.1 h
    exact ⟨i, by simpa using hi, e⟩
theorem opC_le {b m e t : Int} (n : Nat) (hn : n < 33) : opC b m e t n ≤ mostOp b m e t := most_mem _ 0 _ (List.mem_map.2 ⟨n, by simpa using hn, rfl⟩)
/-- Whether an op ahead of n costs M. -/
def metTo (b m e t M : Int) (n : Nat) : Bool := decide (∃ i, i < n ∧ opC b m e t i = M)
theorem metTo_succ (b m e t M : Int) (n : Nat) : metTo b m e t M (n + 1) = (metTo b m e t M n || decide (opC b m e t n = M)) := by
  unfold metTo
  rw [← Bool.decide_or]
  congr 1
  apply propext
  constructor
  · rintro ⟨i, hi, h⟩
    by_cases c : i = n
    · subst c; exact .inr h
    · exact .inl ⟨i, by omega, h⟩
  · rintro (⟨i, hi, h⟩ | h)
    · exact ⟨i, by omega, h⟩
    · exact ⟨n, by omega, h⟩
set_option maxHeartbeats 8000000 in
theorem worst_law (w : World) (a : Option Addr) (zs : List Int) (cap : Nat) (ht : TabE w) (hs : Seg .u8 w a zs) (hby : ∀ z ∈ zs, (Lit.int .u8 z).wf = true) :
    Calls Tryd.prog 3 #[.slice a zs.length cap] w fun r w' => r = .returned (.bool true) ∧ Below w.heap.size w w' := by
  obtain ⟨n, Hn⟩ : ∃ n, Hid (n = zs.length) := ⟨_, rfl⟩
  by_cases hbig : zs.length ≤ 1048576
  rotate_left
  · rw [← Hn.out] at hbig ⊢
    have HB : Hid _ := hbig
    clear hbig hs hby ht
    go_enter Tryd.func3, Tryd.ntmps3
    go_wp2_with fail
    refine (big_yes a n cap _ HB.out).mono ?_
    rintro r w1 ⟨rfl, rfl⟩
    go_wp2
    go_ret
    exact ⟨rfl, Below.refl _ _⟩
  have HDA : Hid _ := draw_access w a zs cap hs hby hbig
  have HT : Hid _ := ht
  rw [← Hn.out] at HDA hbig ⊢
  clear hs hby ht Hn
  go_enter Tryd.func3, Tryd.ntmps3
  go_wp2_with fail
  refine (big_no a n cap _ hbig).mono ?_
  rintro r w0 ⟨rfl, hw0⟩
  rw [hw0]
  clear hw0 w0
  go_wp2_with fail
  refine Calls.mono HDA.out ?_
  rintro r w1 ⟨b, m, e, s, k, t, l, x, y, z, rfl, hb1⟩
  obtain ⟨W, hW⟩ : ∃ W, W = (w1.alloc (crow 25 b m e s k t l)).alloc (arow x y z) := ⟨_, rfl⟩
  have HB : Hid (Below w.heap.size w W) := by
    show Below _ _ _
    rw [hW]
    exact (hb1.alloc hb1.size _).alloc (hb1.alloc hb1.size _).size _
  have HW : Hid _ := hW
  have hr : ∀ i v, (#[.int .i64 b, .int .i64 m, .int .i64 e, .int .i64 s, .int .i64 k, .int .i64 t, .int .i64 l] : Array Value)[i]? = some v → W.cell? ⟨w1.heap.size, i, none⟩ = some v := fun i v h => by
    rw [hW]; exact cell_alloc (new_cell w1 _ 25 i v h)
  have ha : ∀ i v, (#[.bool x, .bool y, .bool z] : Array Value)[i]? = some v → W.cell? ⟨w1.heap.size + 1, i, none⟩ = some v := fun i v h => by
    rw [hW]; have := new_cell (w1.alloc (crow 25 b m e s k t l)) _ 27 i v h; simpa using this
  clear hb1 hW
  go_wp2_with fail
  rw [← HW.out]
  generalize w1.heap.size = C at hr ha
  clear HW
  refine (spec_cok b m e s k t l _).mono ?_
  rintro r w2 ⟨rfl, hw2⟩
  have hbb : Below W.heap.size W w2 := by rw [hw2]; exact (Below.refl _ _).alloc (Nat.le_refl _) _
  have HR0 : Hid (Below w.heap.size w w2 ∧ (∀ i v, (#[.int .i64 b, .int .i64 m, .int .i64 e, .int .i64 s, .int .i64 k, .int .i64 t, .int .i64 l] : Array Value)[i]? = some v → w2.cell? ⟨C, i, none⟩ = some v) ∧ (∀ i v, (#[.bool x, .bool y, .bool z] : Array Value)[i]? = some v → w2.cell? ⟨C + 1, i, none⟩ = some v)) :=
    ⟨HB.out.trans (hbb.mono HB.out.size), fun i v h => cell_kept hbb (hr i v h), fun i v h => cell_kept hbb (ha i v h)⟩
  clear hbb hr ha HB hw2 HDA
  obtain ⟨q, Q⟩ : ∃ q, Hid (costsOk b m e s k t l = q) := ⟨_, rfl⟩
  rw [Q.out]
  have c0 := HR0.out.2.1 0 _ rfl
  have c1 := HR0.out.2.1 1 _ rfl
  have c2 := HR0.out.2.1 2 _ rfl
  have c3 := HR0.out.2.1 3 _ rfl
  have c4 := HR0.out.2.1 4 _ rfl
  have c5 := HR0.out.2.1 5 _ rfl
  have c6 := HR0.out.2.1 6 _ rfl
  cases q with
  | false =>
    have HS : Hid (∀ X, TabE X → Calls Tryd.prog 9 #[cst b m e s k t l] X fun r w' => r = .returned (.int .i64 (-1)) ∧ Below X.heap.size X w') := fun X hX => by
      have := impl_worstS b m e s k t l X hX
      unfold worstStep at this
      rw [Q.out] at this
      exact this
    have HAA : Hid (∀ X, Calls Tryd.prog 10 #[cst b m e s k t l] X fun r w' => r = .returned (.int .i64 (-1)) ∧ Below X.heap.size X w') := fun X => by
      have := impl_worstA b m e s k t l X
      unfold worstAccess at this
      rw [Q.out] at this
      exact this
    go_wp2_with fail
    refine (HS.out _ (TabE.below HT.out HR0.out.1)).mono ?_
    rintro r w3 ⟨rfl, hbb⟩
    have HB3 : Hid _ := HR0.out.1.trans (hbb.mono HR0.out.1.size)
    replace c0 := cell_kept hbb c0
    replace c1 := cell_kept hbb c1
    replace c2 := cell_kept hbb c2
    replace c3 := cell_kept hbb c3
    replace c4 := cell_kept hbb c4
    replace c5 := cell_kept hbb c5
    replace c6 := cell_kept hbb c6
    clear hbb
    go_wp2_with fail
    refine (HAA.out _).mono ?_
    rintro r w4 ⟨rfl, hbb⟩
    have HB4 : Hid _ := HB3.out.trans (hbb.mono HB3.out.size)
    clear hbb
    go_wp2
    go_ret
    exact ⟨rfl, HB4.out⟩
  | true =>
    have hparts := costsOk_parts Q.out
    obtain ⟨M, HMM⟩ : ∃ M, Hid (M = mostOp b m e t) := ⟨_, rfl⟩
    have hM : 0 ≤ M ∧ M ≤ 70 := by rw [HMM.out]; exact mostOp_range Q.out
    obtain ⟨A, HAE⟩ : ∃ A, Hid (A = s + k + l) := ⟨_, rfl⟩
    have hA : 0 ≤ A ∧ A ≤ 150 := by have := HAE.out; omega
    have ht5 : 0 ≤ t ∧ t ≤ 50 := hparts.2.2.2.2.2.1
    obtain ⟨A0, HA0⟩ : ∃ A0, Hid (A0 = ac s k l x y z) := ⟨_, rfl⟩
    have hA0 : 0 ≤ A0 ∧ A0 ≤ A := by
      have h1 := HAE.out
      rw [HA0.out]
      unfold ac
      cases x <;> cases y <;> cases z <;> simp <;> omega
    have HS : Hid (∀ X, TabE X → Calls Tryd.prog 9 #[cst b m e s k t l] X fun r w' => r = .returned (.int .i64 (M + 2 * A + t)) ∧ Below X.heap.size X w') := fun X hX => by
      have := impl_worstS b m e s k t l X hX
      unfold worstStep at this
      rw [Q.out] at this
      rw [HMM.out, HAE.out]
      exact this
    have HAA : Hid (∀ X, Calls Tryd.prog 10 #[cst b m e s k t l] X fun r w' => r = .returned (.int .i64 A) ∧ Below X.heap.size X w') := fun X => by
      have := impl_worstA b m e s k t l X
      unfold worstAccess at this
      rw [Q.out] at this
      rw [HAE.out]
      exact this
    have HAC : Hid (∀ X, Calls Tryd.prog 12 #[cst b m e s k t l, acc x y z] X fun r w' => r = .returned (.int .i64 A0) ∧ Below X.heap.size X w') := fun X => by
      have := impl_access b m e s k t l x y z X
      unfold accessCost at this
      rw [Q.out] at this
      rw [HA0.out]
      exact this
    have HAB : Hid (∀ X, Calls Tryd.prog 12 #[cst b m e s k t l, acc false false true] X fun r w' => r = .returned (.int .i64 A) ∧ Below X.heap.size X w') := fun X => by
      have := impl_access b m e s k t l false false true X
      unfold accessCost at this
      rw [Q.out] at this
      rw [HAE.out]
      simpa [ac] using this
    have HAZ : Hid (∀ X, Calls Tryd.prog 12 #[cst b m e s k t l, acc true true false] X fun r w' => r = .returned (.int .i64 0) ∧ Below X.heap.size X w') := fun X => by
      have := impl_access b m e s k t l true true false X
      unfold accessCost at this
      rw [Q.out] at this
      simpa [ac] using this
    have HOO : Hid (∀ (n : Nat) X, n < 33 → TabE X → Calls Tryd.prog 11 #[cst b m e s k t l, .int .i64 n] X fun r w' => r = .returned (.int .i64 (opC b m e t n)) ∧ Below X.heap.size X w') := fun n X hn hX => by
      have := impl_op b m e s k t l n X hX
      unfold opCost at this
      rw [if_pos Q.out, if_pos ⟨by omega, by omega⟩, Int.toNat_natCast] at this
      exact this
    clear hparts HAE HA0
    go_wp2_with fail
    refine (HS.out _ (TabE.below HT.out HR0.out.1)).mono ?_
    rintro r w3 ⟨rfl, hbb⟩
    have HR3 : Hid _ := And.intro (HR0.out.1.trans (hbb.mono HR0.out.1.size)) (And.intro (fun (i : Nat) (v : Value) (h : (#[.int .i64 b, .int .i64 m, .int .i64 e, .int .i64 s, .int .i64 k, .int .i64 t, .int .i64 l] : Array Value)[i]? = some v) => cell_kept hbb (HR0.out.2.1 i v h)) (fun (i : Nat) (v : Value) (h : (#[.bool x, .bool y, .bool z] : Array Value)[i]? = some v) => cell_kept hbb (HR0.out.2.2 i v h)))
    clear hbb HR0 c0 c1 c2 c3 c4 c5 c6 HS
    go_wp2_with fail
    go_loopw [6, 7] (fun v i wr => ∃ n : Nat, n ≤ 33 ∧ i = .int .i64 n ∧ ∃ q, v = .bool q ∧ Hid (metTo b m e t M n = q) ∧ Hid (Below w.heap.size w wr ∧ (∀ i v, (#[.int .i64 b, .int .i64 m, .int .i64 e, .int .i64 s, .int .i64 k, .int .i64 t, .int .i64 l] : Array Value)[i]? = some v → wr.cell? ⟨C, i, none⟩ = some v) ∧ (∀ i v, (#[.bool x, .bool y, .bool z] : Array Value)[i]? = some v → wr.cell? ⟨C + 1, i, none⟩ = some v))) (fun _ i _ => 33 - (intOf i).toNat)
    case atStart => exact ⟨0, by omega, rfl, false, rfl, by simp [metTo, Hid], HR3.out⟩
    case round =>
      obtain ⟨n, hn, rfl, q, rfl, HM, HR⟩ := hrel
      have hb := HR.out.1
      have c0 := HR.out.2.1 0 _ rfl
      have c1 := HR.out.2.1 1 _ rfl
      have c2 := HR.out.2.1 2 _ rfl
      have c3 := HR.out.2.1 3 _ rfl
      have c4 := HR.out.2.1 4 _ rfl
      have c5 := HR.out.2.1 5 _ rfl
      have c6 := HR.out.2.1 6 _ rfl
      have a0 := HR.out.2.2 0 _ rfl
      have a1 := HR.out.2.2 1 _ rfl
      have a2 := HR.out.2.2 2 _ rfl
      by_cases hnt : n < 33
      · have hnt' : (n : Int) < 33 := by omega
        obtain ⟨o, HO⟩ : ∃ o, Hid (o = opC b m e t n) := ⟨_, rfl⟩
        have ho : 1 ≤ o ∧ o ≤ M := by rw [HO.out, HMM.out]; exact ⟨(opC_range Q.out n).1, opC_le n hnt⟩
        have HOP : Hid (∀ X, TabE X → Calls Tryd.prog 11 #[cst b m e s k t l, .int .i64 n] X fun r w' => r = .returned (.int .i64 o) ∧ Below X.heap.size X w') := fun X hX => by rw [HO.out]; exact HOO.out n X hnt hX
        have hT : TabE _ := TabE.below HT.out hb
        have hx1 : IntKind.i64.wrap (o + A0) = o + A0 := by rw [IntKind.wrap_i64]; omega
        have hx2 : IntKind.i64.wrap (o + A0 + A) = o + A0 + A := by rw [IntKind.wrap_i64]; omega
        have hx3 : IntKind.i64.wrap (o + A0 + A + t) = o + A0 + A + t := by rw [IntKind.wrap_i64]; omega
        have hy1 : IntKind.i64.wrap (2 * A) = 2 * A := by rw [IntKind.wrap_i64]; omega
        have hy2 : IntKind.i64.wrap (o + 2 * A) = o + 2 * A := by rw [IntKind.wrap_i64]; omega
        have hy3 : IntKind.i64.wrap (o + 2 * A + t) = o + 2 * A + t := by rw [IntKind.wrap_i64]; omega
        have hcmp : ¬ (M + 2 * A + t < o + A0 + A + t) := by omega
        have hone : ¬ (o < 1) := by omega
        clear HR
        go_wp2_with fail
        go_region_held3 (fun w' => w'.cell? ⟨C, 0, none⟩ = some (.int .i64 b) ∧ w'.cell? ⟨C, 1, none⟩ = some (.int .i64 m) ∧ w'.cell? ⟨C, 2, none⟩ = some (.int .i64 e) ∧ w'.cell? ⟨C, 3, none⟩ = some (.int .i64 s) ∧ w'.cell? ⟨C, 4, none⟩ = some (.int .i64 k) ∧ w'.cell? ⟨C, 5, none⟩ = some (.int .i64 t) ∧ w'.cell? ⟨C, 6, none⟩ = some (.int .i64 l) ∧ w'.cell? ⟨C + 1, 0, none⟩ = some (.bool x) ∧ w'.cell? ⟨C + 1, 1, none⟩ = some (.bool y) ∧ w'.cell? ⟨C + 1, 2, none⟩ = some (.bool z)) (first | exact ⟨c0, c1, c2, c3, c4, c5, c6, a0, a1, a2⟩) (first | (go_at_call 11; go_must (refine Calls.mono (HOP.out _ (fun i hi => hT i hi)) ?_; rintro u w9 ⟨rfl, hbb⟩; (first | replace hb := hb.trans (hbb.mono hb.size) | replace hb := hb.drew.trans (hbb.mono hb.drew.size)); replace c0 := cell_kept hbb c0; replace c1 := cell_kept hbb c1; replace c2 := cell_kept hbb c2; replace c3 := cell_kept hbb c3; replace c4 := cell_kept hbb c4; replace c5 := cell_kept hbb c5; replace c6 := cell_kept hbb c6; replace a0 := cell_kept hbb a0; replace a1 := cell_kept hbb a1; replace a2 := cell_kept hbb a2; replace hT := tabE_kept hbb (fun i hi => hT i hi); clear hbb)) | (go_at_call 12; go_must (refine Calls.mono (HAC.out _) ?_; rintro u w9 ⟨rfl, hbb⟩; (first | replace hb := hb.trans (hbb.mono hb.size) | replace hb := hb.drew.trans (hbb.mono hb.drew.size)); replace c0 := cell_kept hbb c0; replace c1 := cell_kept hbb c1; replace c2 := cell_kept hbb c2; replace c3 := cell_kept hbb c3; replace c4 := cell_kept hbb c4; replace c5 := cell_kept hbb c5; replace c6 := cell_kept hbb c6; replace a0 := cell_kept hbb a0; replace a1 := cell_kept hbb a1; replace a2 := cell_kept hbb a2; replace hT := tabE_kept hbb (fun i hi => hT i hi); clear hbb)) | (go_at_call 10; go_must (refine Calls.mono (HAA.out _) ?_; rintro u w9 ⟨rfl, hbb⟩; (first | replace hb := hb.trans (hbb.mono hb.size) | replace hb := hb.drew.trans (hbb.mono hb.drew.size)); replace c0 := cell_kept hbb c0; replace c1 := cell_kept hbb c1; replace c2 := cell_kept hbb c2; replace c3 := cell_kept hbb c3; replace c4 := cell_kept hbb c4; replace c5 := cell_kept hbb c5; replace c6 := cell_kept hbb c6; replace a0 := cell_kept hbb a0; replace a1 := cell_kept hbb a1; replace a2 := cell_kept hbb a2; replace hT := tabE_kept hbb (fun i hi => hT i hi); clear hbb)))
        clear hx1 hx2 hx3
        rename_i hheld1
        clear hheld1
        go_wp2_with fail
        refine (HOP.out _ hT).mono ?_
        rintro u w10 ⟨rfl, hbb⟩
        (first | replace hb := hb.trans (hbb.mono hb.size) | replace hb := hb.drew.trans (hbb.mono hb.drew.size)); replace c0 := cell_kept hbb c0; replace c1 := cell_kept hbb c1; replace c2 := cell_kept hbb c2; replace c3 := cell_kept hbb c3; replace c4 := cell_kept hbb c4; replace c5 := cell_kept hbb c5; replace c6 := cell_kept hbb c6; replace a0 := cell_kept hbb a0; replace a1 := cell_kept hbb a1; replace a2 := cell_kept hbb a2; replace hT := tabE_kept hbb hT; clear hbb
        go_wp2_with fail
        go_region_held3 (fun w' => w'.cell? ⟨C, 0, none⟩ = some (.int .i64 b) ∧ w'.cell? ⟨C, 1, none⟩ = some (.int .i64 m) ∧ w'.cell? ⟨C, 2, none⟩ = some (.int .i64 e) ∧ w'.cell? ⟨C, 3, none⟩ = some (.int .i64 s) ∧ w'.cell? ⟨C, 4, none⟩ = some (.int .i64 k) ∧ w'.cell? ⟨C, 5, none⟩ = some (.int .i64 t) ∧ w'.cell? ⟨C, 6, none⟩ = some (.int .i64 l) ∧ w'.cell? ⟨C + 1, 0, none⟩ = some (.bool x) ∧ w'.cell? ⟨C + 1, 1, none⟩ = some (.bool y) ∧ w'.cell? ⟨C + 1, 2, none⟩ = some (.bool z)) (first | exact ⟨c0, c1, c2, c3, c4, c5, c6, a0, a1, a2⟩) (first | (go_at_call 11; go_must (refine Calls.mono (HOP.out _ (fun i hi => hT i hi)) ?_; rintro u w9 ⟨rfl, hbb⟩; (first | replace hb := hb.trans (hbb.mono hb.size) | replace hb := hb.drew.trans (hbb.mono hb.drew.size)); replace c0 := cell_kept hbb c0; replace c1 := cell_kept hbb c1; replace c2 := cell_kept hbb c2; replace c3 := cell_kept hbb c3; replace c4 := cell_kept hbb c4; replace c5 := cell_kept hbb c5; replace c6 := cell_kept hbb c6; replace a0 := cell_kept hbb a0; replace a1 := cell_kept hbb a1; replace a2 := cell_kept hbb a2; replace hT := tabE_kept hbb (fun i hi => hT i hi); clear hbb)) | (go_at_call 12; go_must (refine Calls.mono (HAB.out _) ?_; rintro u w9 ⟨rfl, hbb⟩; (first | replace hb := hb.trans (hbb.mono hb.size) | replace hb := hb.drew.trans (hbb.mono hb.drew.size)); replace c0 := cell_kept hbb c0; replace c1 := cell_kept hbb c1; replace c2 := cell_kept hbb c2; replace c3 := cell_kept hbb c3; replace c4 := cell_kept hbb c4; replace c5 := cell_kept hbb c5; replace c6 := cell_kept hbb c6; replace a0 := cell_kept hbb a0; replace a1 := cell_kept hbb a1; replace a2 := cell_kept hbb a2; replace hT := tabE_kept hbb (fun i hi => hT i hi); clear hbb)))
        have HR9 : Hid (Below w.heap.size w w9 ∧ (∀ i v, (#[.int .i64 b, .int .i64 m, .int .i64 e, .int .i64 s, .int .i64 k, .int .i64 t, .int .i64 l] : Array Value)[i]? = some v → w9.cell? ⟨C, i, none⟩ = some v) ∧ (∀ i v, (#[.bool x, .bool y, .bool z] : Array Value)[i]? = some v → w9.cell? ⟨C + 1, i, none⟩ = some v)) := by
          refine ⟨hb, fun i v h => ?_, fun i v h => ?_⟩
          · match i, h with
            | 0, h => cases h; exact c0
            | 1, h => cases h; exact c1
            | 2, h => cases h; exact c2
            | 3, h => cases h; exact c3
            | 4, h => cases h; exact c4
            | 5, h => cases h; exact c5
            | 6, h => cases h; exact c6
            | (j + 7), h => simp at h
          · match i, h with
            | 0, h => cases h; exact a0
            | 1, h => cases h; exact a1
            | 2, h => cases h; exact a2
            | (j + 3), h => simp at h
        have HMS : Hid _ := metTo_succ b m e t M n
        clear hb hT c0 c1 c2 c3 c4 c5 c6 a0 a1 a2
        rename_i hheld2
        clear hheld2
        by_cases ho2 : o = M
        · have heq : (o + 2 * A + t == M + 2 * A + t) = true := by rw [ho2]; simp
          have HNX : Hid (metTo b m e t M (n + 1) = true) := by
            show _ = _
            rw [HMS.out, ← HO.out, decide_eq_true ho2, Bool.or_true]
          clear ho2
          go_wp2
          go_roundw
          case rel => exact ⟨n + 1, by omega, by go_num, true, rfl, HNX, HR9.out⟩
          case measure => simp [intOf]; omega
        · have heq : (o + 2 * A + t == M + 2 * A + t) = false := by simp; omega
          have HNX : Hid (metTo b m e t M (n + 1) = q) := by
            show _ = _
            rw [HMS.out, ← HO.out, decide_eq_false ho2, Bool.or_false, HM.out]
          clear ho2
          go_wp2
          go_roundw
          case rel => exact ⟨n + 1, by omega, by go_num, q, rfl, HNX, HR9.out⟩
          case measure => simp [intOf]; omega
      · obtain rfl : n = 33 := by omega
        obtain rfl : q = true := by
          rw [← HM.out]
          obtain ⟨j, hj, e⟩ := most_met Q.out
          exact decide_eq_true ⟨j, hj, by rw [HMM.out]; exact e⟩
        have HB3 : Hid _ := hb
        clear hb
        go_wp2_with fail
        refine (HAZ.out _).mono ?_
        rintro u w9 ⟨rfl, hbb⟩
        have HB4 : Hid _ := HB3.out.trans (hbb.mono HB3.out.size)
        clear hbb
        go_wp2
        go_ret
        exact ⟨rfl, HB4.out⟩
end Go.Proofs.YtikaekmnclgflaaDoor
