
/-
  Rows of bytes of two images held against each other, for each of a list of partitions: the program's closure and loop; the specification's own comparison. Conditions: the lists lie in memory; lengths are at most 1048576; bytes are bytes.
-/
import Derived.Test.YtgmhcngdgfhhaaaGreatDoorBas
import Derived.Test.YtgmhcngdgfhhaaaGreatDoorSfa
import Derived.Test.YtgmhcngdgfhhaaaGreatDoorIms
import Derived.Test.YtgmhcngdgfhhaaaGreatDoorJhs
import Derived.Laws.BytesArg
import Derived.Lib.Bytes
namespace Go.Proofs.YtgmhcngdgfhhaaaGreatDoor
open Go.ChangeShapes Go.WideShapes Go.ChangeAt Go.RowKit Go.Deep Go.Joins
set_option linter.unusedVariables false

/-- Two images are the same. -/
def ImE (n m : Nat) (D E : Nat → List Int) : Prop := n = m ∧ ∀ j, j < n → D j = E j
set_option maxRecDepth 20000 in
set_option maxHeartbeats 4000000 in
theorem cl_sf (i : Nat) (ia ib : Option Addr) (ica icb n m B1 B2 : Nat) (N M : Nat → Nat) (D E : Nat → Nat → List Int) (q : Bool) (w : World)
    (h1 : w.cell? ⟨B1, 0, none⟩ = some (.slice ia n ica)) (h2 : w.cell? ⟨B2, 0, none⟩ = some (.slice ib m icb)) (ha : MSeg w ia n N D) (hb : MSeg w ib m M E) (hin : i < n) (him : i < m)
    (hN : N i ≤ 1048576) (hM : M i ≤ 1048576) (hD : ∀ j, j < N i → (D i j).length ≤ 1048576) (hE : ∀ j, j < M i → (E i j).length ≤ 1048576) (hq : q = true ↔ ImE (N i) (M i) (D i) (E i)) :
    Calls Tryz.prog 37 #[.int .i64 (i : Int), .pointer (some ⟨B1, 0, none⟩), .pointer (some ⟨B2, 0, none⟩)] w fun e w' => e = .returned (.bool q) ∧ Below w.heap.size w w' := by
  obtain ⟨b1, o1, a1, c1, rfl, hl1, e1, s1⟩ := MSeg.at ha i hin
  obtain ⟨b2, o2, a2, c2, rfl, hl2, e2, s2⟩ := MSeg.at hb i him
  have HC : Hid (∀ x : Gr w, Calls Tryz.prog 38 #[.slice a1 (N i) c1, .slice a2 (M i) c2] x.w fun e w' => e = .returned (.bool q) ∧ Below x.w.heap.size x.w w') := fun x => same_l a1 a2 c1 c2 (N i) (M i) (D i) (E i) q x.w (s1.below x.h) (s2.below x.h) hN hM hD hE hq
  have hin' : (i : Int) < (n : Int) := by omega
  have him' : (i : Int) < (m : Int) := by omega
  replace h1 := fun X => gr_cell h1 X
  replace h2 := fun X => gr_cell h2 X
  replace e1 := fun X => gr_cell e1 X
  replace e2 := fun X => gr_cell e2 X
  clear ha hb s1 s2 hl1 hl2 hN hM hD hE hq
  go_enter Tryz.func37, Tryz.ntmps37
  go_wp2
  have hgr := gr_some w
  refine region_alike (by kernel_rfl) (by kernel_rfl) ?_
  repeat (go_big_quiet_step (first | (go_at_call 38; exact gr_call (HC.out _))))
  refine wpQuiet_nil ?_
  intro _ hw'
  obtain ⟨X1, rfl⟩ := hw'
  have hb3 := X1.h
  generalize X1.w = W1 at hb3 ⊢
  have HB : Hid (Below w.heap.size w W1) := hb3
  clear hb3 h1 h2 e1 e2 hgr
  go_wp2
  go_ret
  exact ⟨rfl, HB.out⟩
set_option maxRecDepth 20000 in
set_option maxHeartbeats 4000000 in
theorem every_i (A : Option Addr) (cap : Nat) (zs : List Int) (B1 B2 : Nat) (G : Int → Bool) (q : Bool) (w : World) (hs : Seg .i64 w A zs) (hl : zs.length ≤ 1048576)
    (hf : ∀ X, Below w.heap.size w X → ∀ z ∈ zs, Calls Tryz.prog 37 #[.int .i64 z, .pointer (some ⟨B1, 0, none⟩), .pointer (some ⟨B2, 0, none⟩)] X fun e w' => e = .returned (.bool (G z)) ∧ Below X.heap.size X w')
    (hq : q = true ↔ ∀ z ∈ zs, G z = true) :
    Calls Tryz.prog 35 #[.slice A zs.length cap, .func (.func 37) #[] #[.pointer (some ⟨B1, 0, none⟩), .pointer (some ⟨B2, 0, none⟩)]] w fun e w' => e = .returned (.bool q) ∧ Below w.heap.size w w' := by
  have HS : Hid (Seg .i64 w A zs) := hs
  have HF : Hid _ := hf
  have HQ : Hid (q = true ↔ ∀ z ∈ zs, G z = true) := hq
  clear hs hf hq
  obtain ⟨n, hn⟩ : ∃ n, n = zs.length := ⟨_, rfl⟩
  rw [← hn] at hl ⊢
  have HN0 : Hid (n = zs.length) := hn
  clear hn
  go_enter Tryz.func35, Tryz.ntmps35
  go_wp2
  go_loopw [9] (fun i wr => ∃ k : Nat, k ≤ n ∧ i = .int .i64 k ∧ Hid (Below w.heap.size w wr ∧ ∀ j, j < k → G (zs.getD j 0) = true)) (fun i _ => n - (intOf i).toNat)
  case atStart => exact ⟨0, by omega, rfl, Below.refl _ _, fun j hj => by omega⟩
  case round =>
    obtain ⟨k, hk, rfl, HR⟩ := hrel
    by_cases hkn : k < n
    rotate_left
    · obtain rfl : k = n := by omega
      have hkk : ¬ ((k : Int) < (k : Int)) := by omega
      have HT : Hid (q = true) := HQ.out.2 (fun z hz => by
        obtain ⟨j, hj, e⟩ := List.getElem_of_mem hz
        have := HR.out.2 j (by have := HN0.out; omega)
        rwa [show zs.getD j 0 = z by simpa [List.getD, hj] using e] at this)
      go_wp2
      go_ret
      exact ⟨by rw [HT.out]; rfl, HR.out.1⟩
    have hkn' : (k : Int) < (n : Int) := by omega
    have HBW : Hid (Below w.heap.size w wr) := HR.out.1
    obtain ⟨b1, o1, rfl, hbl1, c1⟩ := HS.out.at k (by have := HN0.out; omega)
    replace c1 := (HBW.out.cell (p := ⟨b1, o1 + k, none⟩) hbl1).trans c1
    have hzm : zs.getD k 0 ∈ zs := by
      have : zs.getD k 0 = zs[k] := by simp [List.getD, show k < zs.length by have := HN0.out; omega]
      rw [this]; exact List.getElem_mem _
    have HZM : Hid (zs.getD k 0 ∈ zs) := hzm
    have HC : Hid _ := HF.out wr HBW.out _ hzm
    obtain ⟨z, HZ⟩ : ∃ z, Hid (zs.getD k 0 = z) := ⟨_, rfl⟩
    rw [HZ.out] at c1 HC HZM
    obtain ⟨r, HRR⟩ : ∃ r, Hid (G z = r) := ⟨_, rfl⟩
    rw [HRR.out] at HC
    clear hbl1 hzm
    go_wp2_with fail
    refine Calls.mono HC.out ?_
    rintro e w2 ⟨rfl, hb2⟩
    have HB2 : Hid (Below w.heap.size w w2) := HBW.out.trans (hb2.mono HBW.out.size)
    clear hb2 HC c1
    cases r
    · have HT : Hid (q = false) := by
        cases q
        · rfl
        · have := (HQ.out.1 rfl) z HZM.out
          rw [HRR.out] at this
          cases this
      go_wp2
      go_ret
      exact ⟨by rw [HT.out]; rfl, HB2.out⟩
    have HN : Hid (∀ j, j < k + 1 → G (zs.getD j 0) = true) := fun j hj => by
      by_cases e : j = k
      · subst e; rw [HZ.out]; exact HRR.out
      · exact HR.out.2 j (by omega)
    clear HR HRR HZ
    go_wp2
    go_roundw
    case rel => exact ⟨k + 1, by omega, by go_num, HB2.out, HN.out⟩
    case measure => simp [intOf]; omega
structure Rs6 (V : World) (v17 v18 v19 v20 v21 v22 v24 v25 v26 v27 : Value) (w' : World) (b0 b1 b2 b3 b4 b5 b6 b7 b8 b9 b10 : Bool) (x17 x18 x19 x20 x21 x22 x23 x24 x25 x26 x27 : Value) : Prop where
  gb : Below V.heap.size V w'
  f0 : b0 = true → x17 = v17
  f1 : b1 = true → x18 = v18
  f2 : b2 = true → x19 = v19
  f3 : b3 = true → x20 = v20
  f4 : b4 = true → x21 = v21
  f5 : b5 = true → x22 = v22
  f6 : b6 = true → x23 = v18
  f7 : b7 = true → x24 = v24
  f8 : b8 = true → x25 = v25
  f9 : b9 = true → x26 = v26
  f10 : b10 = true → x27 = v27
theorem Rs6.below {V : World} {v17 v18 v19 v20 v21 v22 v24 v25 v26 v27 : Value} {w' w2 : World} {b0 b1 b2 b3 b4 b5 b6 b7 b8 b9 b10 : Bool} {x17 x18 x19 x20 x21 x22 x23 x24 x25 x26 x27 : Value} (h : Rs6 V v17 v18 v19 v20 v21 v22 v24 v25 v26 v27 w' b0 b1 b2 b3 b4 b5 b6 b7 b8 b9 b10 x17 x18 x19 x20 x21 x22 x23 x24 x25 x26 x27) (hb : Below w'.heap.size w' w2) : Rs6 V v17 v18 v19 v20 v21 v22 v24 v25 v26 v27 w2 b0 b1 b2 b3 b4 b5 b6 b7 b8 b9 b10 x17 x18 x19 x20 x21 x22 x23 x24 x25 x26 x27 :=
  ⟨h.gb.trans (hb.mono h.gb.size), h.f0, h.f1, h.f2, h.f3, h.f4, h.f5, h.f6, h.f7, h.f8, h.f9, h.f10⟩
theorem str_inj {xs ys : List Int} (hx : ∀ z ∈ xs, 0 ≤ z ∧ z ≤ 255) (hy : ∀ z ∈ ys, 0 ≤ z ∧ z ≤ 255) (h : (strOfNums xs).toList = (strOfNums ys).toList) : xs = ys := by
  have h1 : (xs.map fun n => UInt8.ofNat n.toNat) = ys.map fun n => UInt8.ofNat n.toNat := by
    rw [Go.Lib.strOfNums_toList, Go.Lib.strOfNums_toList] at h
    exact h
  have h2 := congrArg (List.map fun b : UInt8 => ((b.toNat : Nat) : Int)) h1
  rw [List.map_map, List.map_map] at h2
  have e : ∀ zs : List Int, (∀ z ∈ zs, 0 ≤ z ∧ z ≤ 255) → zs.map ((fun b : UInt8 => ((b.toNat : Nat) : Int)) ∘ fun n => UInt8.ofNat n.toNat) = zs := fun zs hz => by
    induction zs with
    | nil => rfl
    | cons z zs ih =>
      rw [List.map_cons, ih (fun x hx => hz x (by simp [hx]))]
      have hz0 := hz z (by simp)
      congr 1
      show (((UInt8.ofNat z.toNat).toNat : Nat) : Int) = z
      rw [UInt8.toNat_ofNat']
      omega
  rw [e xs hx, e ys hy] at h2
  exact h2
set_option maxRecDepth 20000 in
set_option maxHeartbeats 4000000 in
theorem same_s (a b : Option Addr) (ca cb n m : Nat) (D E : Nat → List Int) (q : Bool) (w : World) (ha : BSeg w a n D) (hb : BSeg w b m E) (hn : n ≤ 1048576) (hm : m ≤ 1048576) (hd : ∀ i, i < n → 0 < (D i).length) (he : ∀ i, i < m → 0 < (E i).length)
    (wd : ∀ i, i < n → ∀ z ∈ D i, 0 ≤ z ∧ z ≤ 255) (we : ∀ i, i < m → ∀ z ∈ E i, 0 ≤ z ∧ z ≤ 255) (hq : q = true ↔ ImE n m D E) :
    Calls Tryz.prog 23 #[.slice a n ca, .slice b m cb] w fun e w' => e = .returned (.bool q) ∧ Below w.heap.size w w' := by
  have HQ : Hid (q = true ↔ ImE n m D E) := hq
  clear hq
  by_cases hl : n = m
  rotate_left
  · have hlb : ((n : Int) != (m : Int)) = true := by simp; omega
    have HT : Hid (q = false) := by
      cases q
      · rfl
      · exact absurd (HQ.out.1 rfl).1 hl
    clear hl ha hb hd he wd we
    go_enter Tryz.func23, Tryz.ntmps23
    go_wp2
    go_ret
    exact ⟨by rw [HT.out]; rfl, Below.refl _ _⟩
  subst hl
  have hlb : ((n : Int) != (n : Int)) = false := by simp
  by_cases h0 : n = 0
  · subst h0
    have HT : Hid (q = true) := HQ.out.2 ⟨rfl, fun j hj => by omega⟩
    clear ha hb hd he wd we
    go_enter Tryz.func23, Tryz.ntmps23
    go_wp2
    refine wp_loop_rounds 1 ?_
    rw [rounds_succ]
    go_wp2
    go_ret
    exact ⟨by rw [HT.out]; rfl, Below.refl _ _⟩
  obtain ⟨ab, ao, rfl, hla, hca⟩ := ha (by omega)
  obtain ⟨bb, bo, rfl, hlb2, hcb⟩ := hb (by omega)
  have HCA : Hid _ := hca
  have HCB : Hid _ := hcb
  have HPO : Hid ((∀ i, i < n → 0 < (D i).length) ∧ ∀ i, i < n → 0 < (E i).length) := ⟨hd, he⟩
  have HWF : Hid ((∀ i, i < n → ∀ z ∈ D i, 0 ≤ z ∧ z ≤ 255) ∧ ∀ i, i < n → ∀ z ∈ E i, 0 ≤ z ∧ z ≤ 255) := ⟨wd, we⟩
  clear ha hb hca hcb hd he wd we h0
  go_enter Tryz.func23, Tryz.ntmps23
  go_wp2
  go_loopw [5] (fun i wr => ∃ j : Nat, j ≤ n ∧ i = .int .i64 j ∧ Hid (Below w.heap.size w wr ∧ ∀ k, k < j → D k = E k)) (fun i _ => n - (intOf i).toNat)
  case atStart => exact ⟨0, by omega, rfl, Below.refl _ _, fun j hj => by omega⟩
  case round =>
    obtain ⟨i, hi, rfl, HR⟩ := hrel
    by_cases hin : i < n
    rotate_left
    · obtain rfl : i = n := by omega
      have hin' : ¬ ((i : Int) < (i : Int)) := by omega
      have HT : Hid (q = true) := HQ.out.2 ⟨by first | rfl | trivial, HR.out.2⟩
      go_wp2
      go_ret
      exact ⟨by rw [HT.out]; rfl, HR.out.1⟩
    have hin' : (i : Int) < (n : Int) := by omega
    have HBW : Hid (Below w.heap.size w wr) := HR.out.1
    obtain ⟨a1, k1, c1, s1, _⟩ := HCA.out i hin
    obtain ⟨a2, k2, c2, s2, _⟩ := HCB.out i hin
    obtain ⟨r1, p1, rfl, l1, d1⟩ := s1 (HPO.out.1 i hin)
    obtain ⟨r2, p2, rfl, l2, d2⟩ := s2 (HPO.out.2 i hin)
    obtain ⟨row, hrow⟩ : ∃ r, r = D i := ⟨_, rfl⟩
    obtain ⟨row2, hrow2⟩ : ∃ r, r = E i := ⟨_, rfl⟩
    rw [← hrow] at c1 d1
    rw [← hrow2] at c2 d2
    have HA : Hid (∀ X, Below wr.heap.size wr X → X.cell? ⟨ab, ao + i, none⟩ = some (.slice (some ⟨r1, p1, none⟩) row.length k1)) := fun X hX => ((HBW.out.trans (hX.mono HBW.out.size)).cell (p := ⟨ab, ao + i, none⟩) hla).trans c1
    have HB : Hid (∀ X, Below wr.heap.size wr X → X.cell? ⟨bb, bo + i, none⟩ = some (.slice (some ⟨r2, p2, none⟩) row2.length k2)) := fun X hX => ((HBW.out.trans (hX.mono HBW.out.size)).cell (p := ⟨bb, bo + i, none⟩) hlb2).trans c2
    have HCV1 : Hid (∀ X, Below wr.heap.size wr X → (convert 93 9 (.slice (some ⟨r1, p1, none⟩) row.length k1)).run Tryz.prog X = .ok (.string (strOfNums row)) X) := fun X hX => run_convert_bytes_arg X 93 5 Tryz.underlying93 Tryz.underlying5 r1 p1 row.length k1 row rfl (fun j hj => ((HBW.out.trans (hX.mono HBW.out.size)).cell (p := ⟨r1, p1 + j, none⟩) l1).trans (d1 j hj)) 9 Tryz.underlying9
    have HCV2 : Hid (∀ X, Below wr.heap.size wr X → (convert 93 9 (.slice (some ⟨r2, p2, none⟩) row2.length k2)).run Tryz.prog X = .ok (.string (strOfNums row2)) X) := fun X hX => run_convert_bytes_arg X 93 5 Tryz.underlying93 Tryz.underlying5 r2 p2 row2.length k2 row2 rfl (fun j hj => ((HBW.out.trans (hX.mono HBW.out.size)).cell (p := ⟨r2, p2 + j, none⟩) l2).trans (d2 j hj)) 9 Tryz.underlying9
    obtain ⟨r, HSE⟩ : ∃ r, Hid ((!((strOfNums row).toList == (strOfNums row2).toList)) = r) := ⟨_, rfl⟩
    have HRE : Hid ((r = false → D i = E i) ∧ (r = true → ¬ D i = E i)) := by
      rw [← hrow, ← hrow2]
      constructor
      · intro h
        rw [← HSE.out] at h
        exact str_inj (by rw [hrow]; exact HWF.out.1 i hin) (by rw [hrow2]; exact HWF.out.2 i hin) (by simpa using h)
      · intro h e
        rw [← HSE.out, e] at h
        simp at h
    have HW0 : Hid (Below wr.heap.size wr wr) := Below.refl _ _
    clear c1 c2 s1 s2 l1 l2 d1 d2 hrow hrow2
    go_wp2
    refine wp_region_inv (by kernel_rfl) (by kernel_rfl) (fun A ℓ a' w' => ∃ (x17 x18 x19 x20 x21 x22 x23 x24 x25 x26 x27 : Value), a' = (((((((((((A.put (some 17) x17).put (some 18) x18).put (some 19) x19).put (some 20) x20).put (some 21) x21).put (some 22) x22).put (some 23) x23).put (some 24) x24).put (some 25) x25).put (some 26) x26).put (some 27) x27) ∧ Rs6 wr (.slice (some ⟨ab, ao, none⟩) n ca) (.int .i64 (i : Int)) (.pointer (some ⟨ab, ao + i, none⟩)) (.slice (some ⟨r1, p1, none⟩) row.length k1) (.string (strOfNums row)) (.slice (some ⟨bb, bo, none⟩) n cb) (.pointer (some ⟨bb, bo + i, none⟩)) (.slice (some ⟨r2, p2, none⟩) row2.length k2) (.string (strOfNums row2)) (.bool r) w' (ℓ 0) (ℓ 1) (ℓ 2) (ℓ 3) (ℓ 4) (ℓ 5) (ℓ 6) (ℓ 7) (ℓ 8) (ℓ 9) (ℓ 10) x17 x18 x19 x20 x21 x22 x23 x24 x25 x26 x27) ?_ ?_ ?_ ?_
    · exact ⟨u17, u18, u19, u20, u21, u22, u23, u24, u25, u26, u27, (by simp only [Act.put, List.setIfInBounds_toArray, List.set_cons_zero, List.set_cons_succ]), ⟨HW0.out.drew, (fun g => by cases g), (fun g => by cases g), (fun g => by cases g), (fun g => by cases g), (fun g => by cases g), (fun g => by cases g), (fun g => by cases g), (fun g => by cases g), (fun g => by cases g), (fun g => by cases g), (fun g => by cases g)⟩⟩
    · intro ℓ a' w' hI hall
      obtain ⟨x17, x18, x19, x20, x21, x22, x23, x24, x25, x26, x27, rfl, hr⟩ := hI
      have hall' : ∀ i, i < 11 → ℓ i = true := hall
      obtain rfl := hr.f0 (hall' 0 (by decide))
      obtain rfl := hr.f1 (hall' 1 (by decide))
      obtain rfl := hr.f2 (hall' 2 (by decide))
      obtain rfl := hr.f3 (hall' 3 (by decide))
      obtain rfl := hr.f4 (hall' 4 (by decide))
      obtain rfl := hr.f5 (hall' 5 (by decide))
      obtain rfl := hr.f6 (hall' 6 (by decide))
      obtain rfl := hr.f7 (hall' 7 (by decide))
      obtain rfl := hr.f8 (hall' 8 (by decide))
      obtain rfl := hr.f9 (hall' 9 (by decide))
      obtain rfl := hr.f10 (hall' 10 (by decide))
      have gb : Hid (Below wr.heap.size wr w') := hr.gb
      clear hall hall' hr
      simp only [Act.put, List.setIfInBounds_toArray, List.set_cons_zero, List.set_cons_succ]
      have HB2 : Hid (Below w.heap.size w w') := HBW.out.trans (gb.out.mono HBW.out.size)
      clear gb
      cases r
      · have HN : Hid (∀ j, j < i + 1 → D j = E j) := fun j hj => by
          by_cases e : j = i
          · subst e; exact HRE.out.1 rfl
          · exact HR.out.2 j (by omega)
        go_wp2
        go_roundw
        case rel => exact ⟨i + 1, by omega, by go_num, HB2.out, HN.out⟩
        case measure => simp [intOf]; omega
      have HT : Hid (q = false) := by
        cases q
        · rfl
        · exact absurd ((HQ.out.1 rfl).2 i hin) (HRE.out.2 rfl)
      go_wp2
      go_ret
      exact ⟨by rw [HT.out]; rfl, HB2.out⟩
    · intro ℓ a' w' i o hI ho hi hL hdep K hK
      obtain ⟨x17, x18, x19, x20, x21, x22, x23, x24, x25, x26, x27, rfl, hr⟩ := hI
      have hi7 : i < 11 := hi
      have hcs : i = 0 ∨ i = 1 ∨ i = 2 ∨ i = 3 ∨ i = 4 ∨ i = 5 ∨ i = 6 ∨ i = 7 ∨ i = 8 ∨ i = 9 ∨ i = 10 := by omega
      clear hi hi7
      rcases hcs with rfl | rfl | rfl | rfl | rfl | rfl | rfl | rfl | rfl | rfl | rfl
      · obtain rfl := Option.some.inj ho
        clear hdep ho
        revert hK
        intro hK
        rw [if_pos (by rfl)]
        try simp only [Act.put, List.setIfInBounds_toArray, List.set_cons_zero, List.set_cons_succ]
        go_simp
        exact hK.out _ _ (fun j => if j = 0 then true else ℓ j) ⟨.slice (some ⟨ab, ao, none⟩) n ca, x18, x19, x20, x21, x22, x23, x24, x25, x26, x27, (by simp only [Act.put, List.setIfInBounds_toArray, List.set_cons_zero, List.set_cons_succ]), ⟨hr.gb, (fun _ => rfl), hr.f1, hr.f2, hr.f3, hr.f4, hr.f5, hr.f6, hr.f7, hr.f8, hr.f9, hr.f10⟩⟩ (if_pos rfl) (fun j hj => if_neg hj)
      · obtain rfl := Option.some.inj ho
        clear hdep ho
        revert hK
        intro hK
        rw [if_pos (by rfl)]
        try simp only [Act.put, List.setIfInBounds_toArray, List.set_cons_zero, List.set_cons_succ]
        go_simp
        exact hK.out _ _ (fun j => if j = 1 then true else ℓ j) ⟨x17, .int .i64 (i : Int), x19, x20, x21, x22, x23, x24, x25, x26, x27, (by simp only [Act.put, List.setIfInBounds_toArray, List.set_cons_zero, List.set_cons_succ]), ⟨hr.gb, hr.f0, (fun _ => rfl), hr.f2, hr.f3, hr.f4, hr.f5, hr.f6, hr.f7, hr.f8, hr.f9, hr.f10⟩⟩ (if_pos rfl) (fun j hj => if_neg hj)
      · obtain rfl := Option.some.inj ho
        have g0 : ℓ 0 = true := hdep { on := 0, ground := Ground.data } (by simp) rfl
        have g1 : ℓ 1 = true := hdep { on := 1, ground := Ground.data } (by simp) rfl
        clear hdep ho
        revert hK
        obtain rfl := hr.f0 g0
        obtain rfl := hr.f1 g1
        intro hK
        rw [if_pos (by rfl)]
        try simp only [Act.put, List.setIfInBounds_toArray, List.set_cons_zero, List.set_cons_succ]
        go_simp
        exact hK.out _ _ (fun j => if j = 2 then true else ℓ j) ⟨.slice (some ⟨ab, ao, none⟩) n ca, .int .i64 (i : Int), .pointer (some ⟨ab, ao + i, none⟩), x20, x21, x22, x23, x24, x25, x26, x27, (by simp only [Act.put, List.setIfInBounds_toArray, List.set_cons_zero, List.set_cons_succ]), ⟨hr.gb, (fun _ => rfl), (fun _ => rfl), (fun _ => rfl), hr.f3, hr.f4, hr.f5, hr.f6, hr.f7, hr.f8, hr.f9, hr.f10⟩⟩ (if_pos rfl) (fun j hj => if_neg hj)
      · obtain rfl := Option.some.inj ho
        have g2 : ℓ 2 = true := hdep { on := 2, ground := Ground.data } (by simp) rfl
        clear hdep ho
        revert hK
        obtain rfl := hr.f2 g2
        have q0 := HA.out _ hr.gb
        intro hK
        rw [if_pos (by rfl)]
        try simp only [Act.put, List.setIfInBounds_toArray, List.set_cons_zero, List.set_cons_succ]
        go_simp
        exact hK.out _ _ (fun j => if j = 3 then true else ℓ j) ⟨x17, x18, .pointer (some ⟨ab, ao + i, none⟩), .slice (some ⟨r1, p1, none⟩) row.length k1, x21, x22, x23, x24, x25, x26, x27, (by simp only [Act.put, List.setIfInBounds_toArray, List.set_cons_zero, List.set_cons_succ]), ⟨hr.gb, hr.f0, hr.f1, (fun _ => rfl), (fun _ => rfl), hr.f4, hr.f5, hr.f6, hr.f7, hr.f8, hr.f9, hr.f10⟩⟩ (if_pos rfl) (fun j hj => if_neg hj)
      · obtain rfl := Option.some.inj ho
        have g3 : ℓ 3 = true := hdep { on := 3, ground := Ground.data } (by simp) rfl
        clear hdep ho
        revert hK
        obtain rfl := hr.f3 g3
        have hcv := HCV1.out _ hr.gb
        intro hK
        rw [if_pos (by rfl)]
        try simp only [Act.put, List.setIfInBounds_toArray, List.set_cons_zero, List.set_cons_succ]
        go_simp
        exact hK.out _ _ (fun j => if j = 4 then true else ℓ j) ⟨x17, x18, x19, .slice (some ⟨r1, p1, none⟩) row.length k1, .string (strOfNums row), x22, x23, x24, x25, x26, x27, (by simp only [Act.put, List.setIfInBounds_toArray, List.set_cons_zero, List.set_cons_succ]), ⟨hr.gb, hr.f0, hr.f1, hr.f2, (fun _ => rfl), (fun _ => rfl), hr.f5, hr.f6, hr.f7, hr.f8, hr.f9, hr.f10⟩⟩ (if_pos rfl) (fun j hj => if_neg hj)
      · obtain rfl := Option.some.inj ho
        clear hdep ho
        revert hK
        intro hK
        rw [if_pos (by rfl)]
        try simp only [Act.put, List.setIfInBounds_toArray, List.set_cons_zero, List.set_cons_succ]
        go_simp
        exact hK.out _ _ (fun j => if j = 5 then true else ℓ j) ⟨x17, x18, x19, x20, x21, .slice (some ⟨bb, bo, none⟩) n cb, x23, x24, x25, x26, x27, (by simp only [Act.put, List.setIfInBounds_toArray, List.set_cons_zero, List.set_cons_succ]), ⟨hr.gb, hr.f0, hr.f1, hr.f2, hr.f3, hr.f4, (fun _ => rfl), hr.f6, hr.f7, hr.f8, hr.f9, hr.f10⟩⟩ (if_pos rfl) (fun j hj => if_neg hj)
      · obtain rfl := Option.some.inj ho
        clear hdep ho
        revert hK
        intro hK
        rw [if_pos (by rfl)]
        try simp only [Act.put, List.setIfInBounds_toArray, List.set_cons_zero, List.set_cons_succ]
        go_simp
        exact hK.out _ _ (fun j => if j = 6 then true else ℓ j) ⟨x17, x18, x19, x20, x21, x22, .int .i64 (i : Int), x24, x25, x26, x27, (by simp only [Act.put, List.setIfInBounds_toArray, List.set_cons_zero, List.set_cons_succ]), ⟨hr.gb, hr.f0, hr.f1, hr.f2, hr.f3, hr.f4, hr.f5, (fun _ => rfl), hr.f7, hr.f8, hr.f9, hr.f10⟩⟩ (if_pos rfl) (fun j hj => if_neg hj)
      · obtain rfl := Option.some.inj ho
        have g5 : ℓ 5 = true := hdep { on := 5, ground := Ground.data } (by simp) rfl
        have g6 : ℓ 6 = true := hdep { on := 6, ground := Ground.data } (by simp) rfl
        clear hdep ho
        revert hK
        obtain rfl := hr.f5 g5
        obtain rfl := hr.f6 g6
        intro hK
        rw [if_pos (by rfl)]
        try simp only [Act.put, List.setIfInBounds_toArray, List.set_cons_zero, List.set_cons_succ]
        go_simp
        exact hK.out _ _ (fun j => if j = 7 then true else ℓ j) ⟨x17, x18, x19, x20, x21, .slice (some ⟨bb, bo, none⟩) n cb, .int .i64 (i : Int), .pointer (some ⟨bb, bo + i, none⟩), x25, x26, x27, (by simp only [Act.put, List.setIfInBounds_toArray, List.set_cons_zero, List.set_cons_succ]), ⟨hr.gb, hr.f0, hr.f1, hr.f2, hr.f3, hr.f4, (fun _ => rfl), (fun _ => rfl), (fun _ => rfl), hr.f8, hr.f9, hr.f10⟩⟩ (if_pos rfl) (fun j hj => if_neg hj)
      · obtain rfl := Option.some.inj ho
        have g7 : ℓ 7 = true := hdep { on := 7, ground := Ground.data } (by simp) rfl
        clear hdep ho
        revert hK
        obtain rfl := hr.f7 g7
        have q0 := HB.out _ hr.gb
        intro hK
        rw [if_pos (by rfl)]
        try simp only [Act.put, List.setIfInBounds_toArray, List.set_cons_zero, List.set_cons_succ]
        go_simp
        exact hK.out _ _ (fun j => if j = 8 then true else ℓ j) ⟨x17, x18, x19, x20, x21, x22, x23, .pointer (some ⟨bb, bo + i, none⟩), .slice (some ⟨r2, p2, none⟩) row2.length k2, x26, x27, (by simp only [Act.put, List.setIfInBounds_toArray, List.set_cons_zero, List.set_cons_succ]), ⟨hr.gb, hr.f0, hr.f1, hr.f2, hr.f3, hr.f4, hr.f5, hr.f6, (fun _ => rfl), (fun _ => rfl), hr.f9, hr.f10⟩⟩ (if_pos rfl) (fun j hj => if_neg hj)
      · obtain rfl := Option.some.inj ho
        have g8 : ℓ 8 = true := hdep { on := 8, ground := Ground.data } (by simp) rfl
        clear hdep ho
        revert hK
        obtain rfl := hr.f8 g8
        have hcv := HCV2.out _ hr.gb
        intro hK
        rw [if_pos (by rfl)]
        try simp only [Act.put, List.setIfInBounds_toArray, List.set_cons_zero, List.set_cons_succ]
        go_simp
        exact hK.out _ _ (fun j => if j = 9 then true else ℓ j) ⟨x17, x18, x19, x20, x21, x22, x23, x24, .slice (some ⟨r2, p2, none⟩) row2.length k2, .string (strOfNums row2), x27, (by simp only [Act.put, List.setIfInBounds_toArray, List.set_cons_zero, List.set_cons_succ]), ⟨hr.gb, hr.f0, hr.f1, hr.f2, hr.f3, hr.f4, hr.f5, hr.f6, hr.f7, (fun _ => rfl), (fun _ => rfl), hr.f10⟩⟩ (if_pos rfl) (fun j hj => if_neg hj)
      · obtain rfl := Option.some.inj ho
        have g4 : ℓ 4 = true := hdep { on := 4, ground := Ground.data } (by simp) rfl
        have g9 : ℓ 9 = true := hdep { on := 9, ground := Ground.data } (by simp) rfl
        clear hdep ho
        revert hK
        obtain rfl := hr.f4 g4
        obtain rfl := hr.f9 g9
        have hse := HSE.out
        intro hK
        rw [if_pos (by rfl)]
        try simp only [Act.put, List.setIfInBounds_toArray, List.set_cons_zero, List.set_cons_succ]
        go_simp
        exact hK.out _ _ (fun j => if j = 10 then true else ℓ j) ⟨x17, x18, x19, x20, .string (strOfNums row), x22, x23, x24, x25, .string (strOfNums row2), .bool r, (by simp only [Act.put, List.setIfInBounds_toArray, List.set_cons_zero, List.set_cons_succ]), ⟨hr.gb, hr.f0, hr.f1, hr.f2, hr.f3, (fun _ => rfl), hr.f5, hr.f6, hr.f7, hr.f8, (fun _ => rfl), (fun _ => rfl)⟩⟩ (if_pos rfl) (fun j hj => if_neg hj)
    · rintro a' w' ℓ ℓ' hℓ hI
      rw [← show ℓ = ℓ' from funext hℓ]
      exact hI
end Go.Proofs.YtgmhcngdgfhhaaaGreatDoor
