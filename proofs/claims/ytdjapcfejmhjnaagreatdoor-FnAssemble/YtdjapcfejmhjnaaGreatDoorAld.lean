/-
  The line of a right instruction, and of a word, read again: plain facts. No function of the program in sight; no conditions but those that each fact names.
  The text of words is read back as these words: plain facts. No function of the program in sight.
  The walk of the law on texts of words: the text of at most 256 words assembles to them and has no labels. Conditions: the tables hold what the text lays; the bytes drawn from are at most 1048576 (beyond, the law says true at once).
-/
import Derived.Test.YtdjapcfejmhjnaaGreatDoorSrx
import Derived.Test.YtdjapcfejmhjnaaGreatDoorDis
import Derived.Test.YtdjapcfejmhjnaaGreatDoorLpx
import Derived.Test.YtdjapcfejmhjnaaGreatDoorDd
import Derived.Test.YtdjapcfejmhjnaaGreatDoorLbx
namespace Go.Proofs.YtdjapcfejmhjnaaGreatDoor
open Go.RowKit
set_option linter.unusedVariables false
set_option maxRecDepth 20000
namespace Cd
/-! ### Numbers there and back -/
theorem dg_digit : ∀ (f n : Nat) (b : Int), b ∈ Dc.dg f n → 48 ≤ b ∧ b ≤ 57
  | 0, n, b, h => by simp [Dc.dg] at h
  | f + 1, n, b, h => by
    by_cases hn : n = 0
    · rw [hn, Dc.dg_zero] at h; cases h
    · rw [Dc.dg_pos _ _ hn, List.mem_append] at h
      rcases h with h | h
      · exact dg_digit f _ b h
      · simp only [List.mem_singleton] at h
        omega
theorem dg_last (f n : Nat) (hn : n ≠ 0) : ∃ l d, Dc.dg (f + 1) n = l ++ [d] ∧ 48 ≤ d ∧ d ≤ 57 := ⟨_, _, Dc.dg_pos f n hn, by omega, by omega⟩
theorem dg_small : ∀ (k f n : Nat), n < 10 ^ k → (Dc.dg f n).length ≤ k
  | k, 0, n, h => by simp [Dc.dg]
  | 0, f + 1, n, h => by
    have : n = 0 := by simp at h; exact h
    rw [this, Dc.dg_zero]
    simp
  | k + 1, f + 1, n, h => by
    by_cases hn : n = 0
    · rw [hn, Dc.dg_zero]; simp
    · rw [Dc.dg_pos _ _ hn, List.length_append]
      have := dg_small k f (n / 10) (by rw [Nat.pow_succ] at h; omega)
      simp
      omega
theorem dv_dg : ∀ (f n : Nat), n < 10 ^ f → Dc.dv (Dc.dg f n) 0 = some (n : Int)
  | 0, n, h => by
    have : n = 0 := by simp at h; exact h
    subst this
    rfl
  | f + 1, n, h => by
    by_cases hn : n = 0
    · subst hn
      rw [Dc.dg_zero]
      rfl
    · rw [Dc.dg_pos _ _ hn, Dc.dv_snoc, dv_dg f (n / 10) (by rw [Nat.pow_succ] at h; omega)]
      simp only [Option.bind_some]
      rw [if_pos (by omega)]
      congr 1
      omega
theorem dect_ne (n : Int) : Dc.dect n ≠ [] := by
  unfold Dc.dect
  split
  · simp
  · split
    · simp
    · rename_i h1 h2
      rw [Dc.dg_pos 19 n.natAbs (by omega)]
      simp
theorem num_back (n most : Int) (h0 : 0 ≤ most) (hm : most ≤ 4294967295) (h1 : -most ≤ n) (h2 : n ≤ most) : Dc.num (Dc.dect n) most = some n := by
  by_cases hz : n = 0
  · subst hz
    have := Dc.plain [48] most h0 (by simp) (by simp) (by simp)
    rw [show Dc.dect 0 = [48] from rfl, ← this]
    unfold Dc.held
    rw [show Dc.dv [48] 0 = some 0 from by decide]
    simp only [Option.bind_some]
    rw [if_pos ⟨rfl, h2, h1⟩]
  · have hl : (Dc.dg 20 n.natAbs).length ≤ 10 := dg_small 10 20 _ (by omega)
    have hd : Dc.dv (Dc.dg 20 n.natAbs) 0 = some (n.natAbs : Int) := dv_dg 20 _ (by omega)
    by_cases hn : n < 0
    · have e : Dc.dect n = 45 :: Dc.dg 20 n.natAbs := by unfold Dc.dect; rw [if_neg hz, if_pos hn]
      have := Dc.signed (Dc.dg 20 n.natAbs) most h0 hl
      rw [e, ← this, hd]
      unfold Dc.held
      simp only [Option.map_some, Option.bind_some]
      have e2 : -((n.natAbs : Nat) : Int) = n := by omega
      rw [e2, if_pos ⟨e, h2, h1⟩]
    · have e : Dc.dect n = Dc.dg 20 n.natAbs := by unfold Dc.dect; rw [if_neg hz, if_neg hn]
      have hne : Dc.dg 20 n.natAbs ≠ [] := by rw [← e]; exact dect_ne n
      have h45 : (Dc.dg 20 n.natAbs).head? ≠ some 45 := by
        cases hh : Dc.dg 20 n.natAbs with
        | nil => simp
        | cons b l =>
          have := dg_digit 20 n.natAbs b (by rw [hh]; simp)
          simp
          omega
      have := Dc.plain (Dc.dg 20 n.natAbs) most h0 (by omega) hne h45
      rw [e, ← this, hd]
      unfold Dc.held
      simp only [Option.bind_some]
      have e2 : ((n.natAbs : Nat) : Int) = n := by omega
      rw [e2, if_pos ⟨e, h2, h1⟩]
theorem nums_dect (n : Int) : Tx.nums (Tx.txt (Dc.dect n)) = Dc.dect n := Tx.nums_txt _ (fun b hb => Dc.dect_byte n b hb)
theorem ans_back (n most : Int) (h0 : 0 ≤ most) (hm : most ≤ 4294967295) (h1 : -most ≤ n) (h2 : n ≤ most) : Dc.ans (Tx.nums (Tx.txt (Dc.dect n))) most = some n := by
  unfold Dc.ans
  rw [if_pos ⟨h0, hm⟩, nums_dect]
  exact num_back n most h0 hm h1 h2
/-! ### Bytes -/
def bl (n : Int) : List UInt8 := (Dc.dect n).map fun z => UInt8.ofNat z.toNat
theorem bl_txt (n : Int) : (Tx.txt (Dc.dect n)).data.toList = bl n := rfl
theorem bl_byte (n : Int) (b : UInt8) (h : b ∈ bl n) : b = 45 ∨ (48 ≤ b.toNat ∧ b.toNat ≤ 57) := by
  unfold bl at h
  rw [List.mem_map] at h
  obtain ⟨z, hz, rfl⟩ := h
  have hd : z = 45 ∨ (48 ≤ z ∧ z ≤ 57) := by
    unfold Dc.dect at hz
    split at hz
    · simp only [List.mem_singleton] at hz; omega
    · split at hz
      · rcases List.mem_cons.1 hz with h | h
        · exact .inl h
        · exact .inr (dg_digit _ _ _ h)
      · exact .inr (dg_digit _ _ _ hz)
  rcases hd with rfl | ⟨h1, h2⟩
  · exact .inl rfl
  · right
    have : z.toNat < 256 := by omega
    simp
    omega
theorem bl_blank (n : Int) : ∀ b ∈ bl n, b ≠ 32 := fun b hb e => by
  rcases bl_byte n b hb with h | h
  · rw [e] at h; exact absurd h (by decide)
  · rw [e] at h; exact absurd h.1 (by decide)
theorem bl_last (n : Int) : ∃ l d, bl n = l ++ [d] ∧ d ≠ 58 := by
  have hne : bl n ≠ [] := by unfold bl; simpa using dect_ne n
  refine ⟨(bl n).dropLast, (bl n).getLast hne, (List.dropLast_concat_getLast hne).symm, fun e => ?_⟩
  rcases bl_byte n _ (List.getLast_mem hne) with h | h
  · rw [e] at h; exact absurd h (by decide)
  · rw [e] at h; exact absurd h.2 (by decide)
theorem cut_app : ∀ (l m : List UInt8), (∀ b ∈ l, b ≠ 32) → Sp.cut 32 (l ++ 32 :: m) = l :: Sp.cut 32 m
  | [], m, _ => by
    show Sp.cut 32 (32 :: m) = _
    rw [Sp.cut, if_pos rfl]
  | b :: l, m, h => by
    show Sp.cut 32 (b :: (l ++ 32 :: m)) = _
    rw [Sp.cut, if_neg (h b (by simp)), cut_app l m (fun x hx => h x (by simp [hx]))]
    rfl
theorem cut_words : ∀ (ws : List (List UInt8)) (l : List UInt8), (∀ b ∈ l, b ≠ 32) → (∀ w ∈ ws, ∀ b ∈ w, b ≠ 32) → Sp.cut 32 (l ++ ws.flatMap fun w => 32 :: w) = l :: ws
  | [], l, h, _ => by simp [cut_none l h]
  | w :: ws, l, h, hw => by
    rw [List.flatMap_cons]
    show Sp.cut 32 (l ++ (32 :: (w ++ ws.flatMap fun w => 32 :: w))) = _
    rw [cut_app l _ h, cut_words ws w (hw w (by simp)) (fun x hx => hw x (by simp [hx]))]
theorem nm_blank : ∀ k : Fin 33, ∀ b ∈ (nm k.val).data.toList, b ≠ 32 := by decide +kernel
theorem opN_nm : ∀ k : Fin 33, Rl.opN (nm k.val) = some k.val := by decide +kernel
theorem nm_dot : ∀ k : Fin 33, (nm k.val).data.toList ≠ Rl.dotW.data.toList := by decide +kernel
/-- The words behind the name. -/
def wl (q : Bool) (x : Int) : List (List UInt8) := if q then [114 :: bl x] else []
def ml (q : Bool) (x : Int) : List (List UInt8) := if q then [bl x] else []
theorem rT_list (q : Bool) (x : Int) : (Sh.rT q x).data.toList = (wl q x).flatMap fun w => 32 :: w := by
  cases q
  · rfl
  · simp [Sh.rT, wl, bl_txt]
theorem mT_list (q : Bool) (x : Int) : (Sh.mT q x).data.toList = (ml q x).flatMap fun w => 32 :: w := by
  cases q
  · rfl
  · simp [Sh.mT, ml, bl_txt]
def ws (qa qb qc qm : Bool) (a b c m : Int) : List (List UInt8) := wl qa a ++ (wl qb b ++ (wl qc c ++ ml qm m))
theorem ws_blank (qa qb qc qm : Bool) (a b c m : Int) : ∀ w ∈ ws qa qb qc qm a b c m, ∀ x ∈ w, x ≠ 32 := by
  have h1 : ∀ q n, ∀ w ∈ wl q n, ∀ x ∈ w, x ≠ 32 := fun q n w hw x hx => by
    cases q
    · cases hw
    · simp only [wl, if_true, List.mem_singleton] at hw
      subst hw
      rcases List.mem_cons.1 hx with rfl | hx
      · decide
      · exact bl_blank n x hx
  have h2 : ∀ q n, ∀ w ∈ ml q n, ∀ x ∈ w, x ≠ 32 := fun q n w hw x hx => by
    cases q
    · cases hw
    · simp only [ml, if_true, List.mem_singleton] at hw
      subst hw
      exact bl_blank n x hx
  intro w hw
  unfold ws at hw
  rcases List.mem_append.1 hw with h | h
  · exact h1 _ _ w h
  · rcases List.mem_append.1 h with h | h
    · exact h1 _ _ w h
    · rcases List.mem_append.1 h with h | h
      · exact h1 _ _ w h
      · exact h2 _ _ w h
theorem line_list (k : Nat) (a b c m f : Int) : (Sh.line k a b c m f).data.toList = (nm k).data.toList ++ (ws (f % 2 == 1) (f / 2 % 2 == 1) (f / 4 % 2 == 1) (f / 8 % 2 == 1) a b c m).flatMap fun w => 32 :: w := by
  unfold Sh.line ws
  simp only [ByteArray.data_append, Array.toList_append, rT_list, mT_list, List.flatMap_append, List.append_assoc]
theorem line_texts (k : Nat) (hk : k < 33) (a b c m f : Int) : Sp.texts 32 (Sh.line k a b c m f) = nm k :: (ws (f % 2 == 1) (f / 2 % 2 == 1) (f / 4 % 2 == 1) (f / 8 % 2 == 1) a b c m).map Sp.mk := by
  unfold Sp.texts
  rw [line_list, cut_words _ _ (nm_blank ⟨k, hk⟩) (ws_blank _ _ _ _ _ _ _ _), List.map_cons]
  congr 1
theorem mk_reg (n : Int) : Sp.mk (114 :: bl n) = ⟨#[114]⟩ ++ Tx.txt (Dc.dect n) := by
  apply ByteArray.ext
  apply Array.toList_inj.1
  simp [Sp.mk, bl_txt]
theorem mk_num (n : Int) : Sp.mk (bl n) = Tx.txt (Dc.dect n) := rfl
theorem take_wl (q : Bool) (x : Int) (r : List (List UInt8)) (h0 : 0 ≤ x) (h1 : x ≤ 15) (hz : q = false → x = 0) : Rl.take1 q ((wl q x ++ r).map Sp.mk) = some (x, r.map Sp.mk) := by
  cases q
  · rw [hz rfl]; rfl
  · simp only [wl, if_true, List.singleton_append, List.map_cons, Rl.take1, mk_reg]
    obtain ⟨n, rfl⟩ := Int.eq_ofNat_of_zero_le h0
    have := Rl.reg_hit ⟨n, by omega⟩
    simp only at this
    rw [this]
    rfl
theorem fin_ml (q : Bool) (k : Nat) (a b c m : Int) (h0 : -8192 ≤ m) (h1 : m ≤ 8191) (hz : q = false → m = 0) : Rl.fin q k a b c ((ml q m).map Sp.mk) = ⟨3, k, a, b, c, m, 0, ⟨#[]⟩⟩ := by
  cases q
  · rw [hz rfl]; rfl
  · have hv := ans_back m 8192 (by omega) (by omega) (by omega) (by omega)
    have hl : Lab.ok (Tx.nums (Tx.txt (Dc.dect m))) = false := by
      cases hl : Lab.ok (Tx.nums (Tx.txt (Dc.dect m))) with
      | false => rfl
      | true => rw [Rl.ok_num _ 8192 hl] at hv; cases hv
    simp [ml, Rl.fin, Rl.immOf, mk_num, hl, hv, h1]
theorem fld_zero (f bit x lo hi : Int) (h : fld f bit x lo hi = true) : (f / bit % 2 == 1) = false → x = 0 := by
  intro hq
  unfold fld at h
  have hq2 : f / bit % 2 ≠ 1 := by simpa using hq
  have : f / bit % 2 = 0 := by omega
  simp [this] at h
  exact h
theorem rdI_line (k : Nat) (hk : k < 33) (a b c m : Int) (h : instrOk k a b c m = true) :
    Rl.rdI k ((ws (forms.getD k 0 % 2 == 1) (forms.getD k 0 / 2 % 2 == 1) (forms.getD k 0 / 4 % 2 == 1) (forms.getD k 0 / 8 % 2 == 1) a b c m).map Sp.mk) = ⟨3, k, a, b, c, m, 0, ⟨#[]⟩⟩ := by
  obtain ⟨h1, h2, h3, h4, h5, h6, h7, h8, h9, h10⟩ := instrOk_bounds _ a b c m h
  rw [instrOk_yes k a b c m _ hk rfl] at h
  simp only [Bool.and_eq_true] at h
  obtain ⟨e1, e2, e3, e4⟩ := h
  have z1 := fld_zero _ _ _ _ _ e1
  rw [Int.ediv_one] at z1
  have z2 := fld_zero _ _ _ _ _ e2
  have z3 := fld_zero _ _ _ _ _ e3
  have z4 := fld_zero _ _ _ _ _ e4
  unfold Rl.rdI Rl.k0 ws Rl.form
  rw [take_wl _ a _ h3 h4 z1]
  show Rl.k1 _ _ _ k a _ = _
  unfold Rl.k1
  rw [take_wl _ b _ h5 h6 z2]
  show Rl.k2 _ _ k a b _ = _
  unfold Rl.k2
  rw [take_wl _ c _ h7 h8 z3]
  exact fin_ml _ k a b c m h9 h10 z4
theorem last_of (X l : List UInt8) (d : UInt8) (s : ByteArray) (h : s.data.toList = X ++ (l ++ [d])) (hd : d ≠ 58) : Rl.colon s = false := by
  unfold Rl.colon
  rw [h, ← List.append_assoc, List.getLast?_append]
  simp [hd]
theorem line_colon (k : Nat) (hk : k < 33) (a b c m f : Int) : Rl.colon (Sh.line k a b c m f) = false := by
  have hl := line_list k a b c m f
  unfold ws at hl
  generalize (f % 2 == 1) = qa at hl
  generalize (f / 2 % 2 == 1) = qb at hl
  generalize (f / 4 % 2 == 1) = qc at hl
  generalize (f / 8 % 2 == 1) = qm at hl
  cases qm with
  | true =>
    obtain ⟨l, d, e, hd⟩ := bl_last m
    refine last_of ((nm k).data.toList ++ ((wl qa a).flatMap (fun w => 32 :: w) ++ ((wl qb b).flatMap (fun w => 32 :: w) ++ ((wl qc c).flatMap (fun w => 32 :: w) ++ [32])))) l d _ ?_ hd
    rw [hl, ← e]
    simp [ml, List.flatMap_append]
  | false =>
    cases qc with
    | true =>
      obtain ⟨l, d, e, hd⟩ := bl_last c
      refine last_of ((nm k).data.toList ++ ((wl qa a).flatMap (fun w => 32 :: w) ++ ((wl qb b).flatMap (fun w => 32 :: w) ++ [32, 114]))) l d _ ?_ hd
      rw [hl, ← e]
      simp [ml, wl, List.flatMap_append]
    | false =>
      cases qb with
      | true =>
        obtain ⟨l, d, e, hd⟩ := bl_last b
        refine last_of ((nm k).data.toList ++ ((wl qa a).flatMap (fun w => 32 :: w) ++ [32, 114])) l d _ ?_ hd
        rw [hl, ← e]
        simp [ml, wl, List.flatMap_append]
      | false =>
        cases qa with
        | true =>
          obtain ⟨l, d, e, hd⟩ := bl_last a
          refine last_of ((nm k).data.toList ++ [32, 114]) l d _ ?_ hd
          rw [hl, ← e]
          simp [ml, wl]
        | false =>
          have h2 : (Sh.line k a b c m f).data.toList = (nm k).data.toList := by rw [hl]; simp [ml, wl]
          have := no_colon ⟨k, hk⟩
          unfold Rl.colon at this ⊢
          rw [h2]
          exact this
theorem bl_len (n : Int) (h0 : -8192 ≤ n) (h1 : n ≤ 8191) : (Tx.txt (Dc.dect n)).size ≤ 5 := by
  rw [Tx.txt_size]
  have := dg_small 4 20 n.natAbs (by omega)
  unfold Dc.dect
  split
  · simp
  · split <;> simp <;> omega
theorem line_small (k : Nat) (hk : k < 33) (a b c m f : Int) (ha : 0 ≤ a ∧ a ≤ 15) (hb : 0 ≤ b ∧ b ≤ 15) (hc : 0 ≤ c ∧ c ≤ 15) (hm : -8192 ≤ m ∧ m ≤ 8191) : (Sh.line k a b c m f).size ≤ 80 := by
  have r : ∀ q x, 0 ≤ x ∧ x ≤ 15 → (Sh.rT q x).size ≤ 7 := fun q x hx => by
    unfold Sh.rT
    split
    · rw [Sh.app_size, show (⟨#[32, 114]⟩ : ByteArray).size = 2 from rfl]
      have := bl_len x (by omega) (by omega)
      omega
    · decide
  have mm : ∀ q, (Sh.mT q m).size ≤ 6 := fun q => by
    unfold Sh.mT
    split
    · rw [Sh.app_size, show (⟨#[32]⟩ : ByteArray).size = 1 from rfl]
      have := bl_len m hm.1 hm.2
      omega
    · decide
  unfold Sh.line
  simp only [Sh.app_size]
  have h1 := r (f % 2 == 1) a ha
  have h2 := r (f / 2 % 2 == 1) b hb
  have h3 := r (f / 4 % 2 == 1) c hc
  have h4 := mm (f / 8 % 2 == 1)
  have h5 := Sh.nm_size ⟨k, hk⟩
  simp only at h5
  omega
/-- The line of a right instruction is read as it. -/
theorem line_back (op a b c m : Int) (h : instrOk op a b c m = true) : Rl.line (lineOf op a b c m) = ⟨3, op, a, b, c, m, 0, ⟨#[]⟩⟩ := by
  obtain ⟨k, rfl, hk⟩ := ok_nat op a b c m h
  obtain ⟨h1, h2, h3, h4, h5, h6, h7, h8, h9, h10⟩ := instrOk_bounds _ a b c m h
  have e : lineOf (k : Int) a b c m = Sh.line k a b c m (forms.getD k 0) := rfl
  rw [e]
  unfold Rl.line
  rw [if_neg (by have := line_small k hk a b c m (forms.getD k 0) ⟨h3, h4⟩ ⟨h5, h6⟩ ⟨h7, h8⟩ ⟨h9, h10⟩; omega), line_colon k hk, line_texts k hk]
  show Rl.rd (nm k) _ = _
  unfold Rl.rd
  rw [if_neg (fun e => nm_dot ⟨k, hk⟩ (by simp only; rw [e])), opN_nm ⟨k, hk⟩]
  exact rdI_line k hk a b c m h
theorem dot_list (x : Int) : (dotWord x).data.toList = Rl.dotW.data.toList ++ [bl x].flatMap fun w => 32 :: w := by
  unfold dotWord
  simp [Rl.dotW, bl_txt]
/-- The line of a word is read as it. -/
theorem dot_back (x : Int) (h0 : 0 ≤ x) (h1 : x ≤ 4294967295) : Rl.line (dotWord x) = ⟨2, 0, 0, 0, 0, 0, x, ⟨#[]⟩⟩ := by
  have hs : (dotWord x).size ≤ 80 := by
    unfold dotWord
    rw [Sh.app_size, show (⟨#[46, 119, 111, 114, 100, 32]⟩ : ByteArray).size = 6 from rfl]
    have := Sh.dect_size x
    omega
  have hc : Rl.colon (dotWord x) = false := by
    obtain ⟨l, d, e, hd⟩ := bl_last x
    refine last_of (Rl.dotW.data.toList ++ [32]) l d _ ?_ hd
    rw [dot_list, ← e]
    simp
  have ht : Sp.texts 32 (dotWord x) = [Rl.dotW, Tx.txt (Dc.dect x)] := by
    unfold Sp.texts
    rw [dot_list, cut_words _ _ (by decide) (by intro w hw; simp only [List.mem_singleton] at hw; subst hw; exact bl_blank x)]
    rfl
  unfold Rl.line
  rw [if_neg (by omega), hc, ht, Bool.false_and, if_neg (by decide)]
  show Rl.rd Rl.dotW _ = _
  unfold Rl.rd
  rw [if_pos rfl]
  have hv := ans_back x 4294967295 (by omega) (by omega) (by omega) (by omega)
  simp only [Rl.rdW, hv]
  rw [if_neg (by omega)]
end Cd
end Go.Proofs.YtdjapcfejmhjnaaGreatDoor
namespace Go.Proofs.YtdjapcfejmhjnaaGreatDoor
set_option linter.unusedVariables false
set_option maxRecDepth 20000

open Cd
namespace Dz
theorem line_short (op a b c m : Int) (h : instrOk op a b c m = true) : (lineOf op a b c m).size ≤ 32 := by
  obtain ⟨k, rfl, hk⟩ := ok_nat op a b c m h
  obtain ⟨h1, h2, h3, h4, h5, h6, h7, h8, h9, h10⟩ := instrOk_bounds _ a b c m h
  have r : ∀ q x, 0 ≤ x ∧ x ≤ 15 → (Sh.rT q x).size ≤ 7 := fun q x hx => by
    unfold Sh.rT
    split
    · rw [Sh.app_size, show (⟨#[32, 114]⟩ : ByteArray).size = 2 from rfl]
      have := bl_len x (by omega) (by omega)
      omega
    · decide
  have mm : ∀ q, (Sh.mT q m).size ≤ 6 := fun q => by
    unfold Sh.mT
    split
    · rw [Sh.app_size, show (⟨#[32]⟩ : ByteArray).size = 1 from rfl]
      have := bl_len m h9 h10
      omega
    · decide
  have e : lineOf (k : Int) a b c m = Sh.line k a b c m (forms.getD k 0) := rfl
  rw [e]
  generalize forms.getD k 0 = f
  unfold Sh.line
  simp only [Sh.app_size]
  have g1 := r (f % 2 == 1) a ⟨h3, h4⟩
  have g2 := r (f / 2 % 2 == 1) b ⟨h5, h6⟩
  have g3 := r (f / 4 % 2 == 1) c ⟨h7, h8⟩
  have g4 := mm (f / 8 % 2 == 1)
  have g5 := Sh.nm_size ⟨k, hk⟩
  simp only at g5
  omega
theorem word_short (x : Int) : (wordLine x).size ≤ 32 := by
  unfold wordLine
  split
  · rename_i h
    exact line_short _ _ _ _ _ h
  · have := Sh.dect_size x
    unfold dotWord
    rw [Sh.app_size, show (⟨#[46, 119, 111, 114, 100, 32]⟩ : ByteArray).size = 6 from rfl]
    omega
theorem text_short : ∀ l : List Int, (text l).size ≤ 33 * l.length
  | [] => by decide
  | x :: l => by
    have := text_short l
    have h := word_short x
    show (wordLine x ++ ⟨#[10]⟩ ++ text l).size ≤ _
    rw [Sh.app_size, Sh.app_size, show (⟨#[10]⟩ : ByteArray).size = 1 from rfl, List.length_cons]
    omega
theorem bl_nl (n : Int) : ∀ b ∈ bl n, b ≠ 10 := fun b hb e => by
  rcases bl_byte n b hb with h | h
  · rw [e] at h; exact absurd h (by decide)
  · rw [e] at h; exact absurd h.1 (by decide)
theorem nm_nl : ∀ k : Fin 33, ∀ b ∈ (nm k.val).data.toList, b ≠ 10 := by decide +kernel
theorem ws_nl (qa qb qc qm : Bool) (a b c m : Int) : ∀ w ∈ ws qa qb qc qm a b c m, ∀ x ∈ w, x ≠ 10 := by
  have hw : ∀ q x, ∀ w ∈ wl q x, ∀ y ∈ w, y ≠ 10 := fun q x w hw y hy => by
    unfold wl at hw
    split at hw
    · rw [List.mem_singleton] at hw
      subst hw
      rcases List.mem_cons.1 hy with e | hy
      · rw [e]; decide
      · exact bl_nl x y hy
    · cases hw
  have hm : ∀ q x, ∀ w ∈ ml q x, ∀ y ∈ w, y ≠ 10 := fun q x w hw y hy => by
    unfold ml at hw
    split at hw
    · rw [List.mem_singleton] at hw
      subst hw
      exact bl_nl x y hy
    · cases hw
  intro w hw' x hx
  unfold ws at hw'
  simp only [List.mem_append] at hw'
  rcases hw' with h | h | h | h
  · exact hw qa a w h x hx
  · exact hw qb b w h x hx
  · exact hw qc c w h x hx
  · exact hm qm m w h x hx
theorem flat_nl (ws : List (List UInt8)) (h : ∀ w ∈ ws, ∀ x ∈ w, x ≠ 10) : ∀ x ∈ ws.flatMap (fun w => (32 : UInt8) :: w), x ≠ 10 := by
  intro x hx
  obtain ⟨w, hw, hx⟩ := List.mem_flatMap.1 hx
  rcases List.mem_cons.1 hx with e | hx
  · rw [e]; decide
  · exact h w hw x hx
theorem word_nl (x : Int) : ∀ b ∈ (wordLine x).data.toList, b ≠ 10 := by
  unfold wordLine
  split
  · rename_i h
    obtain ⟨k, hk, hk2⟩ := ok_nat _ _ _ _ _ h
    rw [hk]
    intro b hb
    have e : ∀ a b c m, lineOf (k : Int) a b c m = Sh.line k a b c m (forms.getD k 0) := fun _ _ _ _ => rfl
    rw [e, line_list, List.mem_append] at hb
    rcases hb with hb | hb
    · exact nm_nl ⟨k, hk2⟩ b hb
    · exact flat_nl _ (ws_nl _ _ _ _ _ _ _ _) b hb
  · intro b hb
    rw [dot_list, List.mem_append] at hb
    rcases hb with hb | hb
    · have : ∀ b ∈ Rl.dotW.data.toList, b ≠ 10 := by decide +kernel
      exact this b hb
    · exact flat_nl _ (fun w hw y hy => by rw [List.mem_singleton] at hw; subst hw; exact bl_nl x y hy) b hb
/-! ### The text cut at its newlines -/
theorem cut_nl : ∀ (l r : List UInt8), (∀ b ∈ l, b ≠ 10) → Sp.cut 10 (l ++ 10 :: r) = l :: Sp.cut 10 r
  | [], r, _ => by
    show Sp.cut 10 (10 :: r) = _
    rw [Sp.cut, if_pos rfl]
  | b :: l, r, h => by
    show Sp.cut 10 (b :: (l ++ 10 :: r)) = _
    rw [Sp.cut, if_neg (h b (by simp)), cut_nl l r (fun x hx => h x (by simp [hx]))]
    rfl
theorem cut_text : ∀ l : List Int, Sp.cut 10 (text l).data.toList = l.map (fun x => (wordLine x).data.toList) ++ [[]]
  | [] => by simp [text, Sp.cut]
  | x :: l => by
    have e : (text (x :: l)).data.toList = (wordLine x).data.toList ++ 10 :: (text l).data.toList := by
      show (wordLine x ++ ⟨#[10]⟩ ++ text l).data.toList = _
      simp
    rw [e, cut_nl _ _ (word_nl x), cut_text l]
    rfl
theorem mk_data (s : ByteArray) : Sp.mk s.data.toList = s := by
  apply ByteArray.ext
  simp [Sp.mk]
theorem pieces_text (l : List Int) : Ln.pieces (text l) = l.map wordLine := by
  unfold Ln.pieces
  rw [cut_text, List.dropLast_concat, List.map_map]
  apply List.map_congr_left
  intro x _
  exact mk_data _
theorem last_text : ∀ l : List Int, l ≠ [] → (text l).data.toList.getLast? = some 10
  | [], h => absurd rfl h
  | [x], _ => by
    show (wordLine x ++ ⟨#[10]⟩ ++ (⟨#[]⟩ : ByteArray)).data.toList.getLast? = _
    simp
  | x :: y :: l, _ => by
    have ih := last_text (y :: l) (by simp)
    show (wordLine x ++ ⟨#[10]⟩ ++ text (y :: l)).data.toList.getLast? = _
    have e : (wordLine x ++ ⟨#[10]⟩ ++ text (y :: l)).data.toList = ((wordLine x).data.toList ++ [10]) ++ (text (y :: l)).data.toList := by simp
    rw [e, List.getLast?_append, ih]
    rfl
theorem ok_text (l : List Int) (h : l.length ≤ 256) : Ln.ok (text l) = true := by
  have h1 := text_short l
  have h2 : (Ln.pieces (text l)).length = l.length := by rw [pieces_text, List.length_map]
  unfold Ln.ok
  rw [h2]
  simp only [Bool.and_eq_true, decide_eq_true_eq, Bool.or_eq_true]
  refine ⟨by omega, ?_, by omega⟩
  by_cases e : l = []
  · subst e; left; rfl
  · right; rw [last_text l e]; rfl
/-- The word of a line. -/
theorem code_back (x : Int) (h0 : 0 ≤ x) (h1 : x ≤ 4294967295) : code (x / 67108864) (x / 4194304 % 16) (x / 262144 % 16) (x / 16384 % 16) (sx (x % 16384)) = x := by
  unfold code sx
  split <;> omega
/-- What the line of a word is read as. -/
theorem word_back (x : Int) (h0 : 0 ≤ x) (h1 : x ≤ 4294967295) : ((Rl.line (wordLine x)).kind = 2 ∧ (Rl.line (wordLine x)).wd = x) ∨ ((Rl.line (wordLine x)).kind = 3 ∧ Am.enc (Rl.line (wordLine x)).op (Rl.line (wordLine x)).a (Rl.line (wordLine x)).b (Rl.line (wordLine x)).c (Rl.line (wordLine x)).m = x) := by
  unfold wordLine
  by_cases h : wOk x = true
  · rw [if_pos h, line_back _ _ _ _ _ h]
    right
    refine ⟨rfl, ?_⟩
    unfold Am.enc
    rw [if_pos h]
    exact code_back x h0 h1
  · rw [if_neg h, dot_back x h0 h1]
    left
    exact ⟨rfl, rfl⟩
theorem scan_text : ∀ (l : List Int) (k n : Nat), (∀ x ∈ l, 0 ≤ x ∧ x ≤ 4294967295) → n + l.length ≤ 256 → Am.scan ((l.map wordLine).map Rl.line) k n [] = (0, 0, [])
  | [], _, _, _, _ => rfl
  | x :: l, k, n, h, hn => by
    have hx := h x (by simp)
    have ih := scan_text l (k + 1) (n + 1) (fun y hy => h y (by simp [hy])) (by simp at hn; omega)
    have hk : (Rl.line (wordLine x)).kind ≠ 0 ∧ (Rl.line (wordLine x)).kind ≠ 1 := by
      rcases word_back x hx.1 hx.2 with g | g <;> (rw [g.1]; decide)
    show Am.scan (Rl.line (wordLine x) :: (l.map wordLine).map Rl.line) k n [] = _
    rw [Am.scan, if_neg hk.1, if_neg hk.2, if_neg (by simp at hn; omega)]
    exact ih
theorem link_text : ∀ (l : List Int) (k : Nat) (ws : List Int), (∀ x ∈ l, 0 ≤ x ∧ x ≤ 4294967295) → Am.link ((l.map wordLine).map Rl.line) k ws [] = (ws ++ l, 0, 0)
  | [], _, ws, _ => by simp [Am.link]
  | x :: l, k, ws, h => by
    have hx := h x (by simp)
    have ih := link_text l (k + 1) (ws ++ [x]) (fun y hy => h y (by simp [hy]))
    show Am.link (Rl.line (wordLine x) :: (l.map wordLine).map Rl.line) k ws [] = _
    rw [Am.link]
    rcases word_back x hx.1 hx.2 with ⟨g, e⟩ | ⟨g, e⟩
    · rw [if_pos g, e, ih]; simp
    · rw [if_neg (by rw [g]; decide), if_pos g, e, ih]; simp
theorem all_text (l : List Int) (h : l.length ≤ 256) (hw : ∀ x ∈ l, 0 ≤ x ∧ x ≤ 4294967295) : Am.all (text l) = (l, [], 0, 0) := by
  unfold Am.all
  rw [if_pos (ok_text l h), pieces_text, scan_text l 0 0 hw (by omega)]
  simp only
  rw [link_text l 0 [] hw]
  rfl
end Dz
end Go.Proofs.YtdjapcfejmhjnaaGreatDoor
namespace Go.Proofs.YtdjapcfejmhjnaaGreatDoor
open Go.ChangeShapes Go.WideShapes Go.ChangeAt Go.RowKit Go.Deep
set_option linter.unusedVariables false
set_option maxRecDepth 20000

theorem labs_text (l : List Int) (h : l.length ≤ 256) (hw : ∀ x ∈ l, 0 ≤ x ∧ x ≤ 4294967295) : Am.labs (Dz.text l) = [] := by
  unfold Am.labs
  rw [Dz.all_text l h hw]
  exact List.eq_nil_of_length_eq_zero (Am.srt_perm []).length_eq
theorem impl_asb_text (l : List Int) (h : l.length ≤ 256) (hw : ∀ x ∈ l, 0 ≤ x ∧ x ≤ 4294967295) (hs : (Dz.text l).size ≤ 1048576) (w : World) (hM : TabM w) (hT : Tab w) (hTN : TabN w) : Calls Tryz.prog 9 #[.string (Dz.text l)] w (AsbPost w (l, [], 0, 0)) :=
  impl_asb_ok _ _ _ _ (by show Calls _ _ _ _ _; rw [← Dz.all_text l h hw]; exact impl_asm _ w hs hM hT hTN)
set_option maxHeartbeats 2000000 in
theorem asm_law (a : Option Addr) (n cap : Nat) (zs : List Int) (w : World) (Hn : Hid (n = zs.length)) (hs : Seg .u8 w a zs) (hb : ∀ z ∈ zs, (Lit.int .u8 z).wf = true) (hn : n ≤ 1048576) (hT : Tabs w) (hM : TabM w) :
    Calls Tryz.prog 3 #[.slice a n cap] w fun e w' => e = .returned (.bool true) ∧ Below w.heap.size w w' := by
  have HD : Hid (∀ X, X = w → Calls Tryz.prog 7 #[.slice a n cap] X fun e w' => ∃ (v : Value) (ys : List Int), e = .returned v ∧ OwnW w' X.heap.size v ys ∧ Words ys ∧ ys.length ≤ 257 ∧ Below X.heap.size X w') := fun X hX => by
    subst hX; exact draw_dis a n cap zs X Hn hs hb hn
  have HT : Hid _ := And.intro hT hM
  clear hs hb hT hM
  go_enter Tryz.func3, Tryz.ntmps3
  go_wp2_with fail
  refine (big_no _ _ _ _ hn).mono ?_
  rintro e w1 ⟨rfl, hw1⟩
  subst hw1
  go_wp2_with fail
  refine (HD.out _ rfl).mono ?_
  rintro e w2 ⟨v, ys, rfl, hown, hwf, hl, hb2⟩
  obtain ⟨a2, cap2, rfl, hseg⟩ := OwnW.seg hown
  have HS2 : Hid _ := hseg
  have HF : Hid _ := hwf
  have HB2 : Hid _ := hb2
  obtain ⟨N, HN⟩ : ∃ N, Hid (N = ys.length) := ⟨_, rfl⟩
  rw [← HN.out] at hl ⊢
  clear hown hseg hwf hb2 HD
  by_cases hlong : 256 < N
  · have hd : decide (256 < (N : Int)) = true := decide_eq_true (by omega)
    go_wp2_with fail
    refine (impl_dis_long _ _ _ _ hlong (by omega)).mono ?_
    rintro e w3 ⟨rfl, hb3⟩
    go_wp2
    go_ret
    exact ⟨rfl, HB2.out.trans (hb3.mono HB2.out.size)⟩
  · have hd : decide (256 < (N : Int)) = false := decide_eq_false (by omega)
    have HX : Hid (∀ x ∈ ys, 0 ≤ x ∧ x ≤ 4294967295) := fun x hx => bounds_u32 (HF.out x hx)
    have hL : ys.length ≤ 256 := by rw [← HN.out]; omega
    have HZ : Hid ((Dz.text ys).size ≤ 1048576) := by
      have := Dz.text_size ys
      show _ ≤ _
      omega
    have HA : Hid (∀ X, TabM X → Tab X → TabN X → Calls Tryz.prog 9 #[.string (Dz.text ys)] X (AsbPost X (ys, [], 0, 0))) := fun X h1 h2 h3 => impl_asb_text ys hL HX.out HZ.out X h1 h2 h3
    have HLb : Hid (∀ X, TabM X → Tab X → TabN X → Calls Tryz.prog 11 #[.string (Dz.text ys)] X (LabPost X [])) := fun X h1 h2 h3 => by
      have := impl_labs (Dz.text ys) X HZ.out h1 h2 h3
      rwa [labs_text ys hL HX.out] at this
    have HT2 : Hid (Tabs w2 ∧ TabM w2) := ⟨Tabs.below HT.out.1 HB2.out, TabM.below HT.out.2 HB2.out⟩
    go_wp2_with fail
    refine (impl_dis a2 cap2 N ys _ HT2.out.1 HS2.out HF.out HN (by omega)).mono ?_
    rintro e w3 ⟨rfl, hb3⟩
    generalize Dz.text ys = tx at HA HLb HZ
    have HT3 : Hid (Tabs w3 ∧ TabM w3 ∧ Seg .u32 w3 a2 ys ∧ Below w1.heap.size w1 w3) := ⟨Tabs.below HT2.out.1 hb3, TabM.below HT2.out.2 hb3, Seg.below HS2.out hb3, HB2.out.trans (hb3.mono HB2.out.size)⟩
    clear hb3 HT2 HS2
    go_wp2_with fail
    refine (HA.out _ HT3.out.2.1 HT3.out.1.1 HT3.out.1.2.1).mono ?_
    rintro e w4 ⟨v4, rfl, hown4, hb4⟩
    obtain ⟨a4, cap4, rfl, hseg4⟩ := OwnW.seg hown4
    have HT4 : Hid (Tabs w4 ∧ TabM w4 ∧ Seg .u32 w4 a2 ys ∧ Seg .u32 w4 a4 ys ∧ Below w1.heap.size w1 w4) := ⟨Tabs.below HT3.out.1 hb4, TabM.below HT3.out.2.1 hb4, Seg.below HT3.out.2.2.1 hb4, hseg4, HT3.out.2.2.2.trans (hb4.mono HT3.out.2.2.2.size)⟩
    clear hown4 hseg4 hb4 HT3
    simp only
    rw [← HN.out]
    go_wp2_with fail
    refine (eq_words a4 a2 cap4 cap2 N ys _ HT4.out.2.2.2.1 HT4.out.2.2.1 HN (by omega)).mono ?_
    rintro e w5 ⟨rfl, m5, hw5⟩
    have hb5 : Below w4.heap.size w4 w5 := by rw [hw5]; exact below_drewN (Below.refl _ _) m5
    have HT5 : Hid (Tabs w5 ∧ TabM w5 ∧ Below w1.heap.size w1 w5) := ⟨Tabs.below HT4.out.1 hb5, TabM.below HT4.out.2.1 hb5, HT4.out.2.2.2.2.trans (hb5.mono HT4.out.2.2.2.2.size)⟩
    clear hw5 hb5 HT4
    go_wp2_with fail
    refine (HLb.out _ HT5.out.2.1 HT5.out.1.1 HT5.out.1.2.1).mono ?_
    rintro e w6 ⟨v6, rfl, hown6, hb6⟩
    obtain ⟨a6, cap6, rfl, -, -, -⟩ := OwnLb.mark hown6
    have H6 : Hid _ := HT5.out.2.2.trans (hb6.mono HT5.out.2.2.size)
    clear hown6 hb6 HT5
    go_wp2
    go_ret
    exact ⟨rfl, H6.out⟩
end Go.Proofs.YtdjapcfejmhjnaaGreatDoor
