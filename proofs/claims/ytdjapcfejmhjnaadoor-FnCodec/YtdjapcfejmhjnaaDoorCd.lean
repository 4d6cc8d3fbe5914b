/-
  The line of a right instruction, and of a word, read again: plain facts. No function of the program in sight; no conditions but those that each fact names.
-/
import Derived.Test.YtdjapcfejmhjnaaDoorSrx
import Derived.Test.YtdjapcfejmhjnaaDoorWord
namespace Go.Proofs.YtdjapcfejmhjnaaDoor
open Go.RowKit
set_option linter.unusedVariables false
set_option maxRecDepth 20000
namespace Cd
/-! ### Numbers there and back -/
theorem dg_digit : ∀ (f n : Nat) (b : Int), b ∈ Dc.dg f n → 48 ≤ b ∧ b ≤ 57
  | 0, n, b, h => by simp [Dc.dg] at h
  | f + 1, n, b, h => by
    by_cases hn : n = 0
    · rw [hn, Dc.dg_zero] at h; cases h
    · rw [Dc.dg_pos _ _ hn, List.mem_append] at h
      rcases h with h | h
      · exact dg_digit f _ b h
      · simp only [List.mem_singleton] at h
        omega
theorem dg_last (f n : Nat) (hn : n ≠ 0) : ∃ l d, Dc.dg (f + 1) n = l ++ [d] ∧ 48 ≤ d ∧ d ≤ 57 := ⟨_, _, Dc.dg_pos f n hn, by omega, by omega⟩
theorem dg_small : ∀ (k f n : Nat), n < 10 ^ k → (Dc.dg f n).length ≤ k
  | k, 0, n, h => by simp [Dc.dg]
  | 0, f + 1, n, h => by
    have : n = 0 := by simp at h; exact h
    rw [this, Dc.dg_zero]
    simp
  | k + 1, f + 1, n, h => by
    by_cases hn : n = 0
    · rw [hn, Dc.dg_zero]; simp
    · rw [Dc.dg_pos _ _ hn, List.length_append]
      have := dg_small k f (n / 10) (by rw [Nat.pow_succ] at h; omega)
      simp
      omega
theorem dv_dg : ∀ (f n : Nat), n < 10 ^ f → Dc.dv (Dc.dg f n) 0 = some (n : Int)
  | 0, n, h => by
    have : n = 0 := by simp at h; exact h
    subst this
    rfl
  | f + 1, n, h => by
    by_cases hn : n = 0
    · subst hn
      rw [Dc.dg_zero]
      rfl
    · rw [Dc.dg_pos _ _ hn, Dc.dv_snoc, dv_dg f (n / 10) (by rw [Nat.pow_succ] at h; omega)]
      simp only [Option.bind_some]
      rw [if_pos (by omega)]
      congr 1
      omega
theorem dect_ne (n : Int) : Dc.dect n ≠ [] := by
  unfold Dc.dect
  split
  · simp
  · split
    · simp
    · rename_i h1 h2
      rw [Dc.dg_pos 19 n.natAbs (by omega)]
      simp
theorem num_back (n most : Int) (h0 : 0 ≤ most) (hm : most ≤ 4294967295) (h1 : -most ≤ n) (h2 : n ≤ most) : Dc.num (Dc.dect n) most = some n := by
  by_cases hz : n = 0
  · subst hz
    have := Dc.plain [48] most h0 (by simp) (by simp) (by simp)
    rw [show Dc.dect 0 = [48] from rfl, ← this]
    unfold Dc.held
    rw [show Dc.dv [48] 0 = some 0 from by decide]
    simp only [Option.bind_some]
    rw [if_pos ⟨rfl, h2, h1⟩]
  · have hl : (Dc.dg 20 n.natAbs).length ≤ 10 := dg_small 10 20 _ (by omega)
    have hd : Dc.dv (Dc.dg 20 n.natAbs) 0 = some (n.natAbs : Int) := dv_dg 20 _ (by omega)
    by_cases hn : n < 0
    · have e : Dc.dect n = 45 :: Dc.dg 20 n.natAbs := by unfold Dc.dect; rw [if_neg hz, if_pos hn]
      have := Dc.signed (Dc.dg 20 n.natAbs) most h0 hl
      rw [e, ← this, hd]
      unfold Dc.held
      simp only [Option.map_some, Option.bind_some]
      have e2 : -((n.natAbs : Nat) : Int) = n := by omega
      rw [e2, if_pos ⟨e, h2, h1⟩]
    · have e : Dc.dect n = Dc.dg 20 n.natAbs := by unfold Dc.dect; rw [if_neg hz, if_neg hn]
      have hne : Dc.dg 20 n.natAbs ≠ [] := by rw [← e]; exact dect_ne n
      have h45 : (Dc.dg 20 n.natAbs).head? ≠ some 45 := by
        cases hh : Dc.dg 20 n.natAbs with
        | nil => simp
        | cons b l =>
          have := dg_digit 20 n.natAbs b (by rw [hh]; simp)
          simp
          omega
      have := Dc.plain (Dc.dg 20 n.natAbs) most h0 (by omega) hne h45
      rw [e, ← this, hd]
      unfold Dc.held
      simp only [Option.bind_some]
      have e2 : ((n.natAbs : Nat) : Int) = n := by omega
      rw [e2, if_pos ⟨e, h2, h1⟩]
theorem nums_dect (n : Int) : Tx.nums (Tx.txt (Dc.dect n)) = Dc.dect n := Tx.nums_txt _ (fun b hb => Dc.dect_byte n b hb)
theorem ans_back (n most : Int) (h0 : 0 ≤ most) (hm : most ≤ 4294967295) (h1 : -most ≤ n) (h2 : n ≤ most) : Dc.ans (Tx.nums (Tx.txt (Dc.dect n))) most = some n := by
  unfold Dc.ans
  rw [if_pos ⟨h0, hm⟩, nums_dect]
  exact num_back n most h0 hm h1 h2
/-! ### Bytes -/
def bl (n : Int) : List UInt8 := (Dc.dect n).map fun z => UInt8.ofNat z.toNat
theorem bl_txt (n : Int) : (Tx.txt (Dc.dect n)).data.toList = bl n := rfl
theorem bl_byte (n : Int) (b : UInt8) (h : b ∈ bl n) : b = 45 ∨ (48 ≤ b.toNat ∧ b.toNat ≤ 57) := by
  unfold bl at h
  rw [List.mem_map] at h
  obtain ⟨z, hz, rfl⟩ := h
  have hd : z = 45 ∨ (48 ≤ z ∧ z ≤ 57) := by
    unfold Dc.dect at hz
    split at hz
    · simp only [List.mem_singleton] at hz; omega
    · split at hz
      · rcases List.mem_cons.1 hz with h | h
        · exact .inl h
        · exact .inr (dg_digit _ _ _ h)
      · exact .inr (dg_digit _ _ _ hz)
  rcases hd with rfl | ⟨h1, h2⟩
  · exact .inl rfl
  · right
    have : z.toNat < 256 := by omega
    simp
    omega
theorem bl_blank (n : Int) : ∀ b ∈ bl n, b ≠ 32 := fun b hb e => by
  rcases bl_byte n b hb with h | h
  · rw [e] at h; exact absurd h (by decide)
  · rw [e] at h; exact absurd h.1 (by decide)
theorem bl_last (n : Int) : ∃ l d, bl n = l ++ [d] ∧ d ≠ 58 := by
  have hne : bl n ≠ [] := by unfold bl; simpa using dect_ne n
  refine ⟨(bl n).dropLast, (bl n).getLast hne, (List.dropLast_concat_getLast hne).symm, fun e => ?_⟩
  rcases bl_byte n _ (List.getLast_mem hne) with h | h
  · rw [e] at h; exact absurd h (by decide)
  · rw [e] at h; exact absurd h.2 (by decide)
theorem cut_app : ∀ (l m : List UInt8), (∀ b ∈ l, b ≠ 32) → Sp.cut 32 (l ++ 32 :: m) = l :: Sp.cut 32 m
  | [], m, _ => by
    show Sp.cut 32 (32 :: m) = _
    rw [Sp.cut, if_pos rfl]
  | b :: l, m, h => by
    show Sp.cut 32 (b :: (l ++ 32 :: m)) = _
    rw [Sp.cut, if_neg (h b (by simp)), cut_app l m (fun x hx => h x (by simp [hx]))]
    rfl
theorem cut_words : ∀ (ws : List (List UInt8)) (l : List UInt8), (∀ b ∈ l, b ≠ 32) → (∀ w ∈ ws, ∀ b ∈ w, b ≠ 32) → Sp.cut 32 (l ++ ws.flatMap fun w => 32 :: w) = l :: ws
  | [], l, h, _ => by simp [cut_none l h]
  | w :: ws, l, h, hw => by
    rw [List.flatMap_cons]
    show Sp.cut 32 (l ++ (32 :: (w ++ ws.flatMap fun w => 32 :: w))) = _
    rw [cut_app l _ h, cut_words ws w (hw w (by simp)) (fun x hx => hw x (by simp [hx]))]
theorem nm_blank : ∀ k : Fin 33, ∀ b ∈ (nm k.val).data.toList, b ≠ 32 := by decide +kernel
theorem opN_nm : ∀ k : Fin 33, Rl.opN (nm k.val) = some k.val := by decide +kernel
theorem nm_dot : ∀ k : Fin 33, (nm k.val).data.toList ≠ Rl.dotW.data.toList := by decide +kernel
/-- The words behind the name. -/
def wl (q : Bool) (x : Int) : List (List UInt8) := if q then [114 :: bl x] else []
def ml (q : Bool) (x : Int) : List (List UInt8) := if q then [bl x] else []
theorem rT_list (q : Bool) (x : Int) : (Sh.rT q x).data.toList = (wl q x).flatMap fun w => 32 :: w := by
  cases q
  · rfl
  · simp [Sh.rT, wl, bl_txt]
theorem mT_list (q : Bool) (x : Int) : (Sh.mT q x).data.toList = (ml q x).flatMap fun w => 32 :: w := by
  cases q
  · rfl
  · simp [Sh.mT, ml, bl_txt]
def ws (qa qb qc qm : Bool) (a b c m : Int) : List (List UInt8) := wl qa a ++ (wl qb b ++ (wl qc c ++ ml qm m))
theorem ws_blank (qa qb qc qm : Bool) (a b c m : Int) : ∀ w ∈ ws qa qb qc qm a b c m, ∀ x ∈ w, x ≠ 32 := by
  have h1 : ∀ q n, ∀ w ∈ wl q n, ∀ x ∈ w, x ≠ 32 := fun q n w hw x hx => by
    cases q
    · cases hw
    · simp only [wl, if_true, List.mem_singleton] at hw
      subst hw
      rcases List.mem_cons.1 hx with rfl | hx
      · decide
      · exact bl_blank n x hx
  have h2 : ∀ q n, ∀ w ∈ ml q n, ∀ x ∈ w, x ≠ 32 := fun q n w hw x hx => by
    cases q
    · cases hw
    · simp only [ml, if_true, List.mem_singleton] at hw
      subst hw
      exact bl_blank n x hx
  intro w hw
  unfold ws at hw
  rcases List.mem_append.1 hw with h | h
  · exact h1 _ _ w h
  · rcases List.mem_append.1 h with h | h
    · exact h1 _ _ w h
    · rcases List.mem_append.1 h with h | h
      · exact h1 _ _ w h
      · exact h2 _ _ w h
theorem line_list (k : Nat) (a b c m f : Int) : (Sh.line k a b c m f).data.toList = (nm k).data.toList ++ (ws (f % 2 == 1) (f / 2 % 2 == 1) (f / 4 % 2 == 1) (f / 8 % 2 == 1) a b c m).flatMap fun w => 32 :: w := by
  unfold Sh.line ws
  simp only [ByteArray.data_append, Array.toList_append, rT_list, mT_list, List.flatMap_append, List.append_assoc]
theorem line_texts (k : Nat) (hk : k < 33) (a b c m f : Int) : Sp.texts 32 (Sh.line k a b c m f) = nm k :: (ws (f % 2 == 1) (f / 2 % 2 == 1) (f / 4 % 2 == 1) (f / 8 % 2 == 1) a b c m).map Sp.mk := by
  unfold Sp.texts
  rw [line_list, cut_words _ _ (nm_blank ⟨k, hk⟩) (ws_blank _ _ _ _ _ _ _ _), List.map_cons]
  congr 1
theorem mk_reg (n : Int) : Sp.mk (114 :: bl n) = ⟨#[114]⟩ ++ Tx.txt (Dc.dect n) := by
  apply ByteArray.ext
  apply Array.toList_inj.1
  simp [Sp.mk, bl_txt]
theorem mk_num (n : Int) : Sp.mk (bl n) = Tx.txt (Dc.dect n) := rfl
theorem take_wl (q : Bool) (x : Int) (r : List (List UInt8)) (h0 : 0 ≤ x) (h1 : x ≤ 15) (hz : q = false → x = 0) : Rl.take1 q ((wl q x ++ r).map Sp.mk) = some (x, r.map Sp.mk) := by
  cases q
  · rw [hz rfl]; rfl
  · simp only [wl, if_true, List.singleton_append, List.map_cons, Rl.take1, mk_reg]
    obtain ⟨n, rfl⟩ := Int.eq_ofNat_of_zero_le h0
    have := Rl.reg_hit ⟨n, by omega⟩
    simp only at this
    rw [this]
    rfl
theorem fin_ml (q : Bool) (k : Nat) (a b c m : Int) (h0 : -8192 ≤ m) (h1 : m ≤ 8191) (hz : q = false → m = 0) : Rl.fin q k a b c ((ml q m).map Sp.mk) = ⟨3, k, a, b, c, m, 0, ⟨#[]⟩⟩ := by
  cases q
  · rw [hz rfl]; rfl
  · have hv := ans_back m 8192 (by omega) (by omega) (by omega) (by omega)
    have hl : Lab.ok (Tx.nums (Tx.txt (Dc.dect m))) = false := by
      cases hl : Lab.ok (Tx.nums (Tx.txt (Dc.dect m))) with
      | false => rfl
      | true => rw [Rl.ok_num _ 8192 hl] at hv; cases hv
    simp [ml, Rl.fin, Rl.immOf, mk_num, hl, hv, h1]
theorem fld_zero (f bit x lo hi : Int) (h : fld f bit x lo hi = true) : (f / bit % 2 == 1) = false → x = 0 := by
  intro hq
  unfold fld at h
  have hq2 : f / bit % 2 ≠ 1 := by simpa using hq
  have : f / bit % 2 = 0 := by omega
  simp [this] at h
  exact h
theorem rdI_line (k : Nat) (hk : k < 33) (a b c m : Int) (h : instrOk k a b c m = true) :
    Rl.rdI k ((ws (forms.getD k 0 % 2 == 1) (forms.getD k 0 / 2 % 2 == 1) (forms.getD k 0 / 4 % 2 == 1) (forms.getD k 0 / 8 % 2 == 1) a b c m).map Sp.mk) = ⟨3, k, a, b, c, m, 0, ⟨#[]⟩⟩ := by
  obtain ⟨h1, h2, h3, h4, h5, h6, h7, h8, h9, h10⟩ := instrOk_bounds _ a b c m h
  rw [instrOk_yes k a b c m _ hk rfl] at h
  simp only [Bool.and_eq_true] at h
  obtain ⟨e1, e2, e3, e4⟩ := h
  have z1 := fld_zero _ _ _ _ _ e1
  rw [Int.ediv_one] at z1
  have z2 := fld_zero _ _ _ _ _ e2
  have z3 := fld_zero _ _ _ _ _ e3
  have z4 := fld_zero _ _ _ _ _ e4
  unfold Rl.rdI Rl.k0 ws Rl.form
  rw [take_wl _ a _ h3 h4 z1]
  show Rl.k1 _ _ _ k a _ = _
  unfold Rl.k1
  rw [take_wl _ b _ h5 h6 z2]
  show Rl.k2 _ _ k a b _ = _
  unfold Rl.k2
  rw [take_wl _ c _ h7 h8 z3]
  exact fin_ml _ k a b c m h9 h10 z4
theorem last_of (X l : List UInt8) (d : UInt8) (s : ByteArray) (h : s.data.toList = X ++ (l ++ [d])) (hd : d ≠ 58) : Rl.colon s = false := by
  unfold Rl.colon
  rw [h, ← List.append_assoc, List.getLast?_append]
  simp [hd]
theorem line_colon (k : Nat) (hk : k < 33) (a b c m f : Int) : Rl.colon (Sh.line k a b c m f) = false := by
  have hl := line_list k a b c m f
  unfold ws at hl
  generalize (f % 2 == 1) = qa at hl
  generalize (f / 2 % 2 == 1) = qb at hl
  generalize (f / 4 % 2 == 1) = qc at hl
  generalize (f / 8 % 2 == 1) = qm at hl
  cases qm with
  | true =>
    obtain ⟨l, d, e, hd⟩ := bl_last m
    refine last_of ((nm k).data.toList ++ ((wl qa a).flatMap (fun w => 32 :: w) ++ ((wl qb b).flatMap (fun w => 32 :: w) ++ ((wl qc c).flatMap (fun w => 32 :: w) ++ [32])))) l d _ ?_ hd
    rw [hl, ← e]
    simp [ml, List.flatMap_append]
  | false =>
    cases qc with
    | true =>
      obtain ⟨l, d, e, hd⟩ := bl_last c
      refine last_of ((nm k).data.toList ++ ((wl qa a).flatMap (fun w => 32 :: w) ++ ((wl qb b).flatMap (fun w => 32 :: w) ++ [32, 114]))) l d _ ?_ hd
      rw [hl, ← e]
      simp [ml, wl, List.flatMap_append]
    | false =>
      cases qb with
      | true =>
        obtain ⟨l, d, e, hd⟩ := bl_last b
        refine last_of ((nm k).data.toList ++ ((wl qa a).flatMap (fun w => 32 :: w) ++ [32, 114])) l d _ ?_ hd
        rw [hl, ← e]
        simp [ml, wl, List.flatMap_append]
      | false =>
        cases qa with
        | true =>
          obtain ⟨l, d, e, hd⟩ := bl_last a
          refine last_of ((nm k).data.toList ++ [32, 114]) l d _ ?_ hd
          rw [hl, ← e]
          simp [ml, wl]
        | false =>
          have h2 : (Sh.line k a b c m f).data.toList = (nm k).data.toList := by rw [hl]; simp [ml, wl]
          have := no_colon ⟨k, hk⟩
          unfold Rl.colon at this ⊢
          rw [h2]
          exact this
theorem bl_len (n : Int) (h0 : -8192 ≤ n) (h1 : n ≤ 8191) : (Tx.txt (Dc.dect n)).size ≤ 5 := by
  rw [Tx.txt_size]
  have := dg_small 4 20 n.natAbs (by omega)
  unfold Dc.dect
  split
  · simp
  · split <;> simp <;> omega
theorem line_small (k : Nat) (hk : k < 33) (a b c m f : Int) (ha : 0 ≤ a ∧ a ≤ 15) (hb : 0 ≤ b ∧ b ≤ 15) (hc : 0 ≤ c ∧ c ≤ 15) (hm : -8192 ≤ m ∧ m ≤ 8191) : (Sh.line k a b c m f).size ≤ 80 := by
  have r : ∀ q x, 0 ≤ x ∧ x ≤ 15 → (Sh.rT q x).size ≤ 7 := fun q x hx => by
    unfold Sh.rT
    split
    · rw [Sh.app_size, show (⟨#[32, 114]⟩ : ByteArray).size = 2 from rfl]
      have := bl_len x (by omega) (by omega)
      omega
    · decide
  have mm : ∀ q, (Sh.mT q m).size ≤ 6 := fun q => by
    unfold Sh.mT
    split
    · rw [Sh.app_size, show (⟨#[32]⟩ : ByteArray).size = 1 from rfl]
      have := bl_len m hm.1 hm.2
      omega
    · decide
  unfold Sh.line
  simp only [Sh.app_size]
  have h1 := r (f % 2 == 1) a ha
  have h2 := r (f / 2 % 2 == 1) b hb
  have h3 := r (f / 4 % 2 == 1) c hc
  have h4 := mm (f / 8 % 2 == 1)
  have h5 := Sh.nm_size ⟨k, hk⟩
  simp only at h5
  omega
/-- The line of a right instruction is read as it. -/
theorem line_back (op a b c m : Int) (h : instrOk op a b c m = true) : Rl.line (lineOf op a b c m) = ⟨3, op, a, b, c, m, 0, ⟨#[]⟩⟩ := by
  obtain ⟨k, rfl, hk⟩ := ok_nat op a b c m h
  obtain ⟨h1, h2, h3, h4, h5, h6, h7, h8, h9, h10⟩ := instrOk_bounds _ a b c m h
  have e : lineOf (k : Int) a b c m = Sh.line k a b c m (forms.getD k 0) := rfl
  rw [e]
  unfold Rl.line
  rw [if_neg (by have := line_small k hk a b c m (forms.getD k 0) ⟨h3, h4⟩ ⟨h5, h6⟩ ⟨h7, h8⟩ ⟨h9, h10⟩; omega), line_colon k hk, line_texts k hk]
  show Rl.rd (nm k) _ = _
  unfold Rl.rd
  rw [if_neg (fun e => nm_dot ⟨k, hk⟩ (by simp only; rw [e])), opN_nm ⟨k, hk⟩]
  exact rdI_line k hk a b c m h
theorem dot_list (x : Int) : (dotWord x).data.toList = Rl.dotW.data.toList ++ [bl x].flatMap fun w => 32 :: w := by
  unfold dotWord
  simp [Rl.dotW, bl_txt]
/-- The line of a word is read as it. -/
theorem dot_back (x : Int) (h0 : 0 ≤ x) (h1 : x ≤ 4294967295) : Rl.line (dotWord x) = ⟨2, 0, 0, 0, 0, 0, x, ⟨#[]⟩⟩ := by
  have hs : (dotWord x).size ≤ 80 := by
    unfold dotWord
    rw [Sh.app_size, show (⟨#[46, 119, 111, 114, 100, 32]⟩ : ByteArray).size = 6 from rfl]
    have := Sh.dect_size x
    omega
  have hc : Rl.colon (dotWord x) = false := by
    obtain ⟨l, d, e, hd⟩ := bl_last x
    refine last_of (Rl.dotW.data.toList ++ [32]) l d _ ?_ hd
    rw [dot_list, ← e]
    simp
  have ht : Sp.texts 32 (dotWord x) = [Rl.dotW, Tx.txt (Dc.dect x)] := by
    unfold Sp.texts
    rw [dot_list, cut_words _ _ (by decide) (by intro w hw; simp only [List.mem_singleton] at hw; subst hw; exact bl_blank x)]
    rfl
  unfold Rl.line
  rw [if_neg (by omega), hc, ht, Bool.false_and, if_neg (by decide)]
  show Rl.rd Rl.dotW _ = _
  unfold Rl.rd
  rw [if_pos rfl]
  have hv := ans_back x 4294967295 (by omega) (by omega) (by omega) (by omega)
  simp only [Rl.rdW, hv]
  rw [if_neg (by omega)]
end Cd
end Go.Proofs.YtdjapcfejmhjnaaDoor
