
/-
  The text of an event read back: which event it says. No function of the program in sight; no conditions but those that each fact names.
-/
import Derived.Test.YthlapikcjiajgaaDoorBas
import Derived.Test.YthlapikcjiajgaaDoorEwk
namespace Go.Proofs.YthlapikcjiajgaaDoor
open Go.ChangeShapes Go.WideShapes Go.ChangeAt Go.RowKit Go.Deep
set_option linter.unusedVariables false
set_option maxRecDepth 20000

theorem cut_none : ∀ (l : List UInt8), (∀ b ∈ l, b ≠ 32) → Sp.cut 32 l = [l]
  | [], _ => rfl
  | b :: l, h => by
    unfold Sp.cut
    rw [if_neg (h b (by simp)), cut_none l (fun x hx => h x (by simp [hx]))]
    rfl
namespace Cd
theorem dg_digit : ∀ (f n : Nat) (b : Int), b ∈ Dc.dg f n → 48 ≤ b ∧ b ≤ 57
  | 0, n, b, h => by simp [Dc.dg] at h
  | f + 1, n, b, h => by
    by_cases hn : n = 0
    · rw [hn, Dc.dg_zero] at h; cases h
    · rw [Dc.dg_pos _ _ hn, List.mem_append] at h
      rcases h with h | h
      · exact dg_digit f _ b h
      · simp only [List.mem_singleton] at h
        omega
theorem dg_small : ∀ (k f n : Nat), n < 10 ^ k → (Dc.dg f n).length ≤ k
  | k, 0, n, h => by simp [Dc.dg]
  | 0, f + 1, n, h => by
    have : n = 0 := by simp at h; exact h
    rw [this, Dc.dg_zero]
    simp
  | k + 1, f + 1, n, h => by
    by_cases hn : n = 0
    · rw [hn, Dc.dg_zero]; simp
    · rw [Dc.dg_pos _ _ hn, List.length_append]
      have := dg_small k f (n / 10) (by rw [Nat.pow_succ] at h; omega)
      simp
      omega
theorem dv_dg : ∀ (f n : Nat), n < 10 ^ f → Dc.dv (Dc.dg f n) 0 = some (n : Int)
  | 0, n, h => by
    have : n = 0 := by simp at h; exact h
    subst this
    rfl
  | f + 1, n, h => by
    by_cases hn : n = 0
    · subst hn
      rw [Dc.dg_zero]
      rfl
    · rw [Dc.dg_pos _ _ hn, Dc.dv_snoc, dv_dg f (n / 10) (by rw [Nat.pow_succ] at h; omega)]
      simp only [Option.bind_some]
      rw [if_pos (by omega)]
      congr 1
      omega
theorem dect_ne (n : Int) : Dc.dect n ≠ [] := by
  unfold Dc.dect
  split
  · simp
  · split
    · simp
    · rename_i h1 h2
      rw [Dc.dg_pos 19 n.natAbs (by omega)]
      simp
theorem num_back (n most : Int) (h0 : 0 ≤ most) (hm : most ≤ 4294967295) (h1 : -most ≤ n) (h2 : n ≤ most) : Dc.num (Dc.dect n) most = some n := by
  by_cases hz : n = 0
  · subst hz
    have := Dc.plain [48] most h0 (by simp) (by simp) (by simp)
    rw [show Dc.dect 0 = [48] from rfl, ← this]
    unfold Dc.held
    rw [show Dc.dv [48] 0 = some 0 from by decide]
    simp only [Option.bind_some]
    rw [if_pos ⟨rfl, h2, h1⟩]
  · have hl : (Dc.dg 20 n.natAbs).length ≤ 10 := dg_small 10 20 _ (by omega)
    have hd : Dc.dv (Dc.dg 20 n.natAbs) 0 = some (n.natAbs : Int) := dv_dg 20 _ (by omega)
    by_cases hn : n < 0
    · have e : Dc.dect n = 45 :: Dc.dg 20 n.natAbs := by unfold Dc.dect; rw [if_neg hz, if_pos hn]
      have := Dc.signed (Dc.dg 20 n.natAbs) most h0 hl
      rw [e, ← this, hd]
      unfold Dc.held
      simp only [Option.map_some, Option.bind_some]
      have e2 : -((n.natAbs : Nat) : Int) = n := by omega
      rw [e2, if_pos ⟨e, h2, h1⟩]
    · have e : Dc.dect n = Dc.dg 20 n.natAbs := by unfold Dc.dect; rw [if_neg hz, if_neg hn]
      have hne : Dc.dg 20 n.natAbs ≠ [] := by rw [← e]; exact dect_ne n
      have h45 : (Dc.dg 20 n.natAbs).head? ≠ some 45 := by
        cases hh : Dc.dg 20 n.natAbs with
        | nil => simp
        | cons b l =>
          have := dg_digit 20 n.natAbs b (by rw [hh]; simp)
          simp
          omega
      have := Dc.plain (Dc.dg 20 n.natAbs) most h0 (by omega) hne h45
      rw [e, ← this, hd]
      unfold Dc.held
      simp only [Option.bind_some]
      have e2 : ((n.natAbs : Nat) : Int) = n := by omega
      rw [e2, if_pos ⟨e, h2, h1⟩]
theorem nums_dect (n : Int) : Tx.nums (Tx.txt (Dc.dect n)) = Dc.dect n := Tx.nums_txt _ (fun b hb => Dc.dect_byte n b hb)
theorem ans_back (n most : Int) (h0 : 0 ≤ most) (hm : most ≤ 4294967295) (h1 : -most ≤ n) (h2 : n ≤ most) : Dc.ans (Tx.nums (Tx.txt (Dc.dect n))) most = some n := by
  unfold Dc.ans
  rw [if_pos ⟨h0, hm⟩, nums_dect]
  exact num_back n most h0 hm h1 h2
def bl (n : Int) : List UInt8 := (Dc.dect n).map fun z => UInt8.ofNat z.toNat
theorem bl_txt (n : Int) : (Tx.txt (Dc.dect n)).data.toList = bl n := rfl
theorem bl_byte (n : Int) (b : UInt8) (h : b ∈ bl n) : b = 45 ∨ (48 ≤ b.toNat ∧ b.toNat ≤ 57) := by
  unfold bl at h
  rw [List.mem_map] at h
  obtain ⟨z, hz, rfl⟩ := h
  have hd : z = 45 ∨ (48 ≤ z ∧ z ≤ 57) := by
    unfold Dc.dect at hz
    split at hz
    · simp only [List.mem_singleton] at hz; omega
    · split at hz
      · rcases List.mem_cons.1 hz with h | h
        · exact .inl h
        · exact .inr (dg_digit _ _ _ h)
      · exact .inr (dg_digit _ _ _ hz)
  rcases hd with rfl | ⟨h1, h2⟩
  · exact .inl rfl
  · right
    have : z.toNat < 256 := by omega
    simp
    omega
theorem bl_blank (n : Int) : ∀ b ∈ bl n, b ≠ 32 := fun b hb e => by
  rcases bl_byte n b hb with h | h
  · rw [e] at h; exact absurd h (by decide)
  · rw [e] at h; exact absurd h.1 (by decide)
theorem cut_app : ∀ (l m : List UInt8), (∀ b ∈ l, b ≠ 32) → Sp.cut 32 (l ++ 32 :: m) = l :: Sp.cut 32 m
  | [], m, _ => by
    show Sp.cut 32 (32 :: m) = _
    rw [Sp.cut, if_pos rfl]
  | b :: l, m, h => by
    show Sp.cut 32 (b :: (l ++ 32 :: m)) = _
    rw [Sp.cut, if_neg (h b (by simp)), cut_app l m (fun x hx => h x (by simp [hx]))]
    rfl
theorem cut_words : ∀ (ws : List (List UInt8)) (l : List UInt8), (∀ b ∈ l, b ≠ 32) → (∀ w ∈ ws, ∀ b ∈ w, b ≠ 32) → Sp.cut 32 (l ++ ws.flatMap fun w => 32 :: w) = l :: ws
  | [], l, h, _ => by simp [cut_none l h]
  | w :: ws, l, h, hw => by
    rw [List.flatMap_cons]
    show Sp.cut 32 (l ++ (32 :: (w ++ ws.flatMap fun w => 32 :: w))) = _
    rw [cut_app l _ h, cut_words ws w (hw w (by simp)) (fun x hx => hw x (by simp [hx]))]
theorem mk_num (n : Int) : Sp.mk (bl n) = Tx.txt (Dc.dect n) := rfl
end Cd
namespace Ex
def Md (n : Int) : Prop := -1000000 ≤ n ∧ n ≤ 1000000
def rdm (n : Int) : Option Int := if -1000000 ≤ n ∧ n ≤ 1000000 then some n else none
theorem dect_dv (n : Int) (h0 : 0 ≤ n) (h1 : n ≤ 9223372036854775807) (hp : 1 ≤ n) : Dc.dv (Dc.dect n) 0 = some n := by
  rw [Dc.dect_pos n hp]
  have := Cd.dv_dg 20 n.toNat (by
    have : n.toNat ≤ 9223372036854775807 := by omega
    exact Nat.lt_of_le_of_lt this (by decide))
  rw [this]
  congr 1
  omega
theorem rdn_dt (n : Int) (h0 : -9223372036854775808 ≤ n) (h1 : n ≤ 9223372036854775807) : rdn (dt n) = rdm n := by
  unfold rdm
  by_cases h : -1000000 ≤ n ∧ n ≤ 1000000
  · rw [if_pos h]
    exact Cd.ans_back n 1000000 (by omega) (by omega) h.1 h.2
  · rw [if_neg h]
    unfold rdn dt Dc.ans
    rw [if_pos (by omega), Cd.nums_dect]
    rcases Nat.lt_or_ge 11 (Dc.dect n).length with g | g
    · exact Dc.num_long _ _ (by omega) (by omega) (by omega)
    · by_cases hp : 0 ≤ n
      · have hp1 : 1 ≤ n := by omega
        have hh : (Dc.dect n).head? ≠ some 45 := by
          rw [Dc.dect_pos n hp1]
          intro e
          have hm : (45 : Int) ∈ Dc.dg 20 n.toNat := List.mem_of_mem_head? e
          have := Cd.dg_digit _ _ _ hm
          omega
        rw [← Dc.plain (Dc.dect n) 1000000 (by omega) g (Cd.dect_ne n) hh, dect_dv n hp h1 hp1]
        show (if _ then _ else _) = none
        rw [if_neg (by omega)]
      · have e : Dc.dect n = 45 :: Dc.dg 20 (-n).toNat := by
          have := Dc.dect_neg (-n) (by omega)
          rw [Int.neg_neg] at this
          exact this
        have hl : (Dc.dg 20 (-n).toNat).length ≤ 10 := by
          rw [e] at g
          simp at g
          omega
        have hv : Dc.dv (Dc.dg 20 (-n).toNat) 0 = some (-n) := by
          rw [Cd.dv_dg 20 (-n).toNat (by
            have : (-n).toNat ≤ 9223372036854775808 := by omega
            exact Nat.lt_of_le_of_lt this (by decide))]
          congr 1
          omega
        rw [e, ← Dc.signed _ 1000000 (by omega) hl, hv]
        show (if _ ∧ -(-n) ≤ (1000000 : Int) ∧ -(1000000 : Int) ≤ -(-n) then _ else _) = none
        rw [if_neg (by omega)]
theorem hx_back (x : Int) (h0 : 0 ≤ x) (h1 : x ≤ 4294967295) : hexv (hx x) = x ∧ hexq (hx x) = true := by
  have hb := Wd.hex_back x h0 h1
  unfold hexv hexq
  rw [if_pos (hx_size x), if_pos (hx_size x)]
  exact hb
theorem nm_inj : ∀ i j : Fin 33, (nm i.1).data.toList = (nm j.1).data.toList → i = j := by decide +kernel
theorem nm_noblank : ∀ i : Fin 33, ∀ b ∈ (nm i.1).data.toList, b ≠ 32 := by decide +kernel
theorem nm_nodash : ∀ i : Fin 33, (nm i.1).size ≠ 1 := by decide +kernel
theorem opf_nm (k : Nat) (hk : k < 33) : opf (nm k) = k := by
  have hne : opf (nm k) ≠ -1 := fun e => by
    rcases up_or (nm k) 33 with h | ⟨t, ht, he, hn⟩
    · have := h k hk
      simp at this
    · rw [opf_hit _ t ht he hn] at e
      omega
  rcases opf_rng (nm k) with h | ⟨h1, h2, h3⟩
  · exact absurd h hne
  · have := nm_inj ⟨(opf (nm k)).toNat, by omega⟩ ⟨k, hk⟩ (by show (nm (opf (nm k)).toNat).data.toList = (nm k).data.toList; rw [h3])
    have e : (opf (nm k)).toNat = k := congrArg Fin.val this
    omega
theorem opf_dash : opf dash = -1 := by
  rcases opf_rng dash with h | ⟨h1, h2, h3⟩
  · exact h
  · exfalso
    have := nm_nodash ⟨(opf dash).toNat, by omega⟩
    apply this
    show (nm (opf dash).toNat).size = 1
    rw [h3]
    rfl
def opn (o : Int) : Int := if 0 ≤ o ∧ o < 33 then o else -1
theorem opw_back (o : Int) : opf (opw o) = opn o ∧ opq (opw o) = true := by
  unfold opw opn opq
  by_cases h : 0 ≤ o ∧ o < 33
  · rw [if_pos h, if_pos h, opf_nm _ (by omega)]
    refine ⟨by omega, ?_⟩
    rw [decide_eq_true (by omega), Bool.true_or]
  · rw [if_neg h, if_neg h, opf_dash]
    exact ⟨rfl, by rw [decide_eq_true (rfl : dash = dash), Bool.or_true]⟩
theorem dt_noblank (n : Int) : ∀ b ∈ (dt n).data.toList, b ≠ 32 := Cd.bl_blank n
theorem opw_noblank (o : Int) : ∀ b ∈ (opw o).data.toList, b ≠ 32 := by
  unfold opw
  split
  · exact nm_noblank ⟨o.toNat, by omega⟩
  · decide
theorem hx_noblank (x : Int) : ∀ b ∈ (hx x).data.toList, b ≠ 32 := by
  intro b hb e
  unfold hx Tx.txt at hb
  rw [List.toList_toArray, List.mem_map] at hb
  obtain ⟨d, hd, rfl⟩ := hb
  have : ∀ (k : Nat) (d : Int), d ∈ Wd.hexL x k → 48 ≤ d ∧ d ≤ 102 := by
    intro k
    induction k with
    | zero => intro d h; cases h
    | succ k ih =>
      intro d h
      unfold Wd.hexL at h
      rcases List.mem_cons.1 h with rfl | h
      · exact Wd.hexdig_bd _ (by omega) (by omega)
      · exact ih d h
  have h2 := this 8 d hd
  have h3 := congrArg UInt8.toNat e
  have h4 : d.toNat < 256 := by omega
  simp at h3
  omega
theorem mk_cut {l : List (List UInt8)} {s : ByteArray} (h : Sp.cut 32 s.data.toList = l) : Sp.texts 32 s = l.map Sp.mk := by
  unfold Sp.texts
  rw [h]
  rfl
theorem mk_data (s : ByteArray) : Sp.mk s.data.toList = s := by
  unfold Sp.mk
  apply ByteArray.ext
  simp
theorem line_words (d1 d2 h3 q d4 d5 h6 : ByteArray) (n1 : ∀ b ∈ d1.data.toList, b ≠ 32) (n2 : ∀ b ∈ d2.data.toList, b ≠ 32) (n3 : ∀ b ∈ h3.data.toList, b ≠ 32) (nq : ∀ b ∈ q.data.toList, b ≠ 32) (n4 : ∀ b ∈ d4.data.toList, b ≠ 32) (n5 : ∀ b ∈ d5.data.toList, b ≠ 32) (n6 : ∀ b ∈ h6.data.toList, b ≠ 32) :
    Sp.texts 32 (line d1 d2 h3 q d4 d5 h6) = [d1, d2, h3, q, d4, d5, h6] := by
  have h := Cd.cut_words [d2.data.toList, h3.data.toList, q.data.toList, d4.data.toList, d5.data.toList, h6.data.toList] d1.data.toList n1 (by
    intro w hw
    simp only [List.mem_cons, List.not_mem_nil, or_false] at hw
    rcases hw with rfl | rfl | rfl | rfl | rfl | rfl
    · exact n2
    · exact n3
    · exact nq
    · exact n4
    · exact n5
    · exact n6)
  have e : (line d1 d2 h3 q d4 d5 h6).data.toList = d1.data.toList ++ [d2.data.toList, h3.data.toList, q.data.toList, d4.data.toList, d5.data.toList, h6.data.toList].flatMap fun w => 32 :: w := by
    unfold line
    simp [List.flatMap_cons]
  rw [← e] at h
  rw [mk_cut h]
  simp only [List.map_cons, List.map_nil, mk_data]
theorem evo_evt (a c p o f u s : Int) (ha : -9223372036854775808 ≤ a ∧ a ≤ 9223372036854775807) (hc : Md c) (hp : 0 ≤ p ∧ p ≤ 4294967295)
    (hf : -9223372036854775808 ≤ f ∧ f ≤ 9223372036854775807) (hu : Md u) (hs : 0 ≤ s ∧ s ≤ 4294967295) :
    evo (evt a c p o f u s) = if (-1000000 ≤ a ∧ a ≤ 1000000) ∧ (-1000000 ≤ f ∧ f ≤ 1000000) then ((a, c, p, opn o, f, u, s), true) else ((0, 0, 0, 0, 0, 0, 0), false) := by
  unfold Md at *
  have ra := rdn_dt a ha.1 ha.2
  have rc := rdn_dt c (by omega) (by omega)
  have rf := rdn_dt f hf.1 hf.2
  have ru := rdn_dt u (by omega) (by omega)
  have xp := hx_back p hp.1 hp.2
  have xs := hx_back s hs.1 hs.2
  have xo := opw_back o
  have hw := line_words (dt a) (dt c) (hx p) (opw o) (dt f) (dt u) (hx s) (dt_noblank a) (dt_noblank c) (hx_noblank p) (opw_noblank o) (dt_noblank f) (dt_noblank u) (hx_noblank s)
  unfold evo evt
  rw [hw]
  have hg : good [dt a, dt c, hx p, opw o, dt f, dt u, hx s] = (rdq (dt a) && (rdq (dt c) && (rdq (dt f) && (rdq (dt u) && (hexq (hx p) && (hexq (hx s) && opq (opw o))))))) := rfl
  have hy : says [dt a, dt c, hx p, opw o, dt f, dt u, hx s] = (rdv (dt a), rdv (dt c), hexv (hx p), opf (opw o), rdv (dt f), rdv (dt u), hexv (hx s)) := rfl
  rw [hg, hy]
  unfold rdq rdv
  rw [ra, rc, rf, ru, xp.1, xp.2, xs.1, xs.2, xo.1, xo.2]
  unfold rdm
  rw [if_pos hc, if_pos hu]
  by_cases g1 : -1000000 ≤ a ∧ a ≤ 1000000
  · rw [if_pos g1]
    by_cases g2 : -1000000 ≤ f ∧ f ≤ 1000000
    · rw [if_pos g2, if_pos ⟨rfl, rfl⟩, if_pos ⟨g1, g2⟩]
      rfl
    · rw [if_neg g2, if_neg (fun h => by cases h.2), if_neg (fun h => g2 h.2)]
  · rw [if_neg g1, if_neg (fun h => by cases h.2), if_neg (fun h => g1 h.1)]
end Ex
end Go.Proofs.YthlapikcjiajgaaDoor
