
/-
  Lists of spans that a call owns, their marks, and whether they still hold them. Conditions: the lists lie in memory that may be written; lengths are at most 1048576.
-/
import Derived.Test.YtphdijkpjjokaaaGreatDoorBas
import Derived.Test.YtphdijkpjjokaaaGreatDoorSps
import Derived.Test.YtphdijkpjjokaaaGreatDoorMkt
import Derived.Test.YtphdijkpjjokaaaGreatDoorLsw
import Derived.Deep.AppendLies
namespace Go.Proofs.YtphdijkpjjokaaaGreatDoor
open Go.ChangeShapes Go.WideShapes Go.ChangeAt Go.RowKit Go.Deep Go.Joins
set_option linter.unusedVariables false

def scells (xs : List saT) : List Value := xs.flatMap saL
theorem scells_len (xs : List saT) : (scells xs).length = xs.length * 4 := by
  induction xs with
  | nil => rfl
  | cons x xs ih => simp only [scells, saL, List.flatMap_cons, List.length_append, List.length_cons, List.length_nil] at ih ⊢; omega
theorem scells_app (xs ys : List saT) : scells (xs ++ ys) = scells xs ++ scells ys := by simp [scells]
theorem scells_at (xs : List saT) (i : Nat) (hi : i < xs.length) (j : Nat) (hj : j < 4) : (scells xs)[i * 4 + j]? = (saL (xs.getD i sa0))[j]? := by
  induction xs generalizing i with
  | nil => simp at hi
  | cons x xs ih =>
    have e : scells (x :: xs) = saL x ++ scells xs := by simp [scells]
    rw [e]
    cases i with
    | zero => rw [Nat.zero_mul, Nat.zero_add, List.getElem?_append_left (by simpa [saL] using hj)]; rfl
    | succ i =>
      rw [List.getElem?_append_right (by simp [saL]; omega), show (i + 1) * 4 + j - (saL x).length = i * 4 + j by simp [saL]; omega]
      exact ih i (by simpa using hi)
theorem scells_news {w : World} {b off : Nat} {xs : List saT} (h : ∀ i, i < xs.length → CellsAt w b (off + i * 4) (saX xs i)) : ∀ j u, (scells xs)[j]? = some u → w.cell? ((⟨b, off, none⟩ : Addr).add j) = some u := fun j u e => by
  rw [add_plain]
  have hj : j < (scells xs).length := by
    rcases Nat.lt_or_ge j (scells xs).length with g | g
    · exact g
    · rw [List.getElem?_eq_none g] at e; cases e
  rw [scells_len] at hj
  have hd : j = j / 4 * 4 + j % 4 := by omega
  have hi : j / 4 < xs.length := by omega
  rw [hd, scells_at xs (j / 4) hi (j % 4) (by omega)] at e
  have := h (j / 4) hi (j % 4) u e
  rw [hd, ← Nat.add_assoc]
  exact this
theorem scells_one (xs : List saT) : ∀ u ∈ scells xs, u.oneCell' = true := by
  intro u hu
  simp only [scells, List.mem_flatMap, saL, List.mem_cons, List.not_mem_nil, or_false] at hu
  obtain ⟨x, _, rfl | rfl | rfl | rfl⟩ := hu <;> rfl
def OwnS (w : World) (base : Nat) (v : Value) (xs : List saT) : Prop := w.ownsRow base 64 4 v xs.length (scells xs)
theorem OwnS.new (w : World) (B : Nat) (hB : B = w.heap.size) : OwnS (w.alloc (.cells #[] 64)) B (.slice (some ⟨B, 0, none⟩) 0 0) [] := by
  subst hB
  exact ⟨rfl, .inr ⟨w.heap.size, 0, #[], rfl, Nat.le_refl _, by show (w.heap.push _)[w.heap.size]? = _; simp, Nat.le_refl _, by simp, rfl, rfl⟩⟩
theorem OwnS.low {w : World} {base b' : Nat} {v : Value} {xs : List saT} (h : OwnS w base v xs) (hle : b' ≤ base) : OwnS w b' v xs := by
  refine ⟨h.1, ?_⟩
  rcases h.2 with hn | ⟨g, cap, cur, e, hb, rest⟩
  · exact .inl hn
  · exact .inr ⟨g, cap, cur, e, by omega, rest⟩
theorem OwnS.block {w : World} {base : Nat} {v : Value} {xs : List saT} (h : OwnS w base v xs) : ∀ k, v.ownBlock = some k → base ≤ k := by
  intro k hk
  rcases h.2 with ⟨h0, h1⟩ | ⟨g, cap, cur, rfl, hb, _⟩
  · rw [h0] at hk; cases hk
  · simp [Value.ownBlock] at hk; omega
theorem OwnS.seg {w : World} {base : Nat} {v : Value} {xs : List saT} (h : OwnS w base v xs) : ∃ a cap, v = .slice a xs.length cap ∧ xs.length ≤ cap ∧ GSeg 4 w a xs.length (saX xs) := by
  rcases h.2 with ⟨h0, h1⟩ | ⟨g, cap, cur, rfl, hb, hg, h1, h2, h3, h4⟩
  · exact ⟨none, 0, by rw [h0, h1], by omega, fun h => absurd h (by omega)⟩
  · have hlt : g < w.heap.size := by
      rcases Nat.lt_or_ge g w.heap.size with hlt | hge
      · exact hlt
      · rw [Array.getElem?_eq_none hge] at hg; cases hg
    refine ⟨_, _, rfl, h1, fun h0 => ⟨g, 0, rfl, hlt, fun i hi j v hj => ?_⟩⟩
    have hj4 : j < 4 := by
      have := (List.getElem?_eq_some_iff.1 hj).1
      simpa [saX, saL] using this
    have e : (scells xs)[i * 4 + j]? = some v := by rw [scells_at xs i hi j hj4]; exact hj
    have hj2 : i * 4 + j < xs.length * 4 := by omega
    rw [← h4, List.getElem?_take, if_pos hj2] at e
    rw [Nat.zero_add]
    have e2 : cur[i * 4 + j]? = some v := by simpa using e
    simp [World.cell?, hg, e2]
theorem ownsS_below {w w' : World} {base : Nat} {e : TypeId} {size : Nat} {v : Value} {n : Nat} {xs : List Value} (h : w.ownsRow base e size v n xs) (hb : Below w.heap.size w w') : w'.ownsRow base e size v n xs := by
  refine ⟨h.1, ?_⟩
  rcases h.2 with hn | ⟨g, cap, cur, e1, h1, hg, rest⟩
  · exact .inl hn
  · have hlt : g < w.heap.size := by
      rcases Nat.lt_or_ge g w.heap.size with hlt | hge
      · exact hlt
      · rw [Array.getElem?_eq_none hge] at hg; cases hg
    exact .inr ⟨g, cap, cur, e1, h1, (hb.block g hlt).trans hg, rest⟩
theorem OwnS.below {w w' : World} {base : Nat} {v : Value} {xs : List saT} (h : OwnS w base v xs) (hb : Below w.heap.size w w') : OwnS w' base v xs := ownsS_below h hb
theorem sa_info' : ∃ i, Tryz.prog.info? 64 = some i ∧ i.zero = some (.agg #[.int .i64 0, .int .i64 0, .int .i64 0, .int .i64 0]) ∧ i.size = 4 ∧ i.bytes = 32 := by
  obtain ⟨i, hi, h⟩ := Option.map_eq_some_iff.1 sa_info
  simp only [Prod.mk.injEq] at h
  exact ⟨i, hi, h.1, h.2.1, h.2.2⟩
/-- A mark. -/
def mkS (K0 : Int) (i : Nat) : saT := (K0 + 4 * (i : Int), K0 + 4 * (i : Int) + 1, K0 + 4 * (i : Int) + 2, K0 + 4 * (i : Int) + 3)
/-- A list of spans in a block of [lo, hi) that may be written. -/
def OS (w : World) (lo hi : Nat) (a : Option Addr) (n : Nat) (X : Nat → List Value) : Prop := WR 4 lo hi w a n ∧ GSeg 4 w a n X
theorem OS.below {w w' : World} {lo hi n : Nat} {a : Option Addr} {X : Nat → List Value} (h : OS w lo hi a n X) (hb : Below w.heap.size w w') : OS w' lo hi a n X := ⟨h.1.below hb, h.2.below hb⟩
theorem OS.mk {w w' : World} {l1 h1 lo hi n : Nat} {a : Option Addr} {X : Nat → List Value} (h : OS w l1 h1 a n X) (g : Mk lo hi w w') (hd : h1 ≤ lo ∨ hi ≤ l1) : OS w' l1 h1 a n X := by
  refine ⟨h.1.mk g, fun h0 => ?_⟩
  obtain ⟨b, off, e, q1, q2, q3, _⟩ := h.1 h0
  obtain ⟨b', off', e', q4, q5⟩ := h.2 h0
  rw [e] at e'
  cases e'
  exact ⟨b, off, e, Nat.lt_of_lt_of_le q3 g.b.size, fun i hin j v hj => (g.b.cell (p := ⟨b, off + i * 4 + j, none⟩) q3 (by show b < lo ∨ hi ≤ b; omega)).trans (q5 i hin j v hj)⟩
theorem OS.wide {w : World} {l1 h1 lo hi n : Nat} {a : Option Addr} {X : Nat → List Value} (h : OS w l1 h1 a n X) (g1 : lo ≤ l1) (g2 : h1 ≤ hi) : OS w lo hi a n X := by
  refine ⟨fun h0 => ?_, h.2⟩
  obtain ⟨b, off, e, q1, q2, q3⟩ := h.1 h0
  exact ⟨b, off, e, by omega, by omega, q3⟩
theorem OwnS.os {w : World} {base : Nat} {v : Value} {xs : List saT} (h : OwnS w base v xs) : ∃ a cap, v = .slice a xs.length cap ∧ OS w base w.heap.size a xs.length (saX xs) := by
  obtain ⟨a, cap, e, hc, hs⟩ := h.seg
  refine ⟨a, cap, e, fun h0 => ?_, hs⟩
  rcases h.2 with ⟨h1, h2⟩ | ⟨g, cap', cur, e', hb, hg, h1, h2, h3, h4⟩
  · omega
  · rw [e'] at e
    injection e with e1 e2 e3
    subst e1
    have hlt : g < w.heap.size := by
      rcases Nat.lt_or_ge g w.heap.size with hlt | hge
      · exact hlt
      · rw [Array.getElem?_eq_none hge] at hg; cases hg
    obtain ⟨b, off, eb, q4, q5⟩ := hs h0
    cases eb
    refine ⟨g, 0, rfl, hb, hlt, hlt, fun i j hi hj => ?_, fun j => by simp [World.frozen?, hg]⟩
    have hl : j < (saX xs i).length := by simpa [saX, saL] using hj
    exact ⟨_, q5 i hi j _ (List.getElem?_eq_getElem hl)⟩
theorem GBlk.os {w : World} {B n : Nat} {xs : List saT} (h : GBlk 4 w B n n (saX xs)) (lo : Nat) (hl : lo ≤ B) : OS w lo w.heap.size (some ⟨B, 0, none⟩) n (saX xs) := by
  refine ⟨fun _ => ⟨B, 0, rfl, hl, h.lt, h.lt, fun i j hi hj => ?_, h.free⟩, h.seg⟩
  rw [Nat.zero_add]
  exact h.room i hi j hj
theorem OwnS.snoc {w : World} {base g cap : Nat} {xs : List saT} {x : saT} (h : w.ownsRow base 64 4 (.slice (some ⟨g, 0, none⟩) (xs.length + 1) cap) (xs.length + 1) (scells xs ++ saL x)) :
    OwnS w base (.slice (some ⟨g, 0, none⟩) (xs.length + 1) cap) (xs ++ [x]) := by
  unfold OwnS
  rw [scells_app, List.length_append]
  have : scells [x] = saL x := by simp [scells]
  rw [this]
  exact h
theorem scells_set (D : List saT) (x : saT) (v : Int) : (scells (D ++ [x])).set (D.length * 4 + 1) (.int .i64 v) = scells (D ++ [(x.1, v, x.2.2.1, x.2.2.2)]) := by
  rw [scells_app, scells_app, List.set_append_right _ _ (by rw [scells_len]; omega), scells_len, show D.length * 4 + 1 - D.length * 4 = 1 by omega]
  simp [scells, saL]
theorem OwnS.set1 {W : World} {base g cap m : Nat} {D : List saT} {x : saT} (h : OwnS W base (.slice (some ⟨g, 0, none⟩) m cap) (D ++ [x])) (v : Int) :
    W.frozen? ⟨g, D.length * 4 + 1, none⟩ = false ∧ W.cell? ⟨g, D.length * 4 + 1, none⟩ = some (.int .i64 x.2.1) ∧ W.cell? ⟨g, D.length * 4 + 3, none⟩ = some (.int .i64 x.2.2.2) ∧ OwnS (W.setCell ⟨g, D.length * 4 + 1, none⟩ (.int .i64 v)) base (.slice (some ⟨g, 0, none⟩) m cap) (D ++ [(x.1, v, x.2.2.1, x.2.2.2)]) := by
  have hl : (D ++ [x]).length = D.length + 1 := by simp
  obtain ⟨a, cap', e, hcp, hs⟩ := h.seg
  injection e with e1 e2 e3
  subst e1
  obtain ⟨b, off, eb, hlt, hc⟩ := hs (by omega)
  cases eb
  have hx : saX (D ++ [x]) D.length = saL x := by simp [saX, List.getD]
  have hcx := hc D.length (by omega)
  rw [hx, Nat.zero_add] at hcx
  have q1 := hcx 1 _ rfl
  have q3 := hcx 3 _ rfl
  rcases h.2 with ⟨h1, h2⟩ | ⟨g', cap2, cur, e', hb, hg, h1, h2, h3, h4⟩
  · omega
  · injection e' with e1 e2 e3
    cases e1
    refine ⟨by simp [World.frozen?, hg], q1, q3, ?_, .inr ⟨g, cap2, cur.setIfInBounds (D.length * 4 + 1) (.int .i64 v), ?_, hb, ?_, ?_, h2, by simp [h3], ?_⟩⟩
    · rw [scells_len]
    · rw [e2, e3, hl]; simp
    · rw [setCell_eq_setRow W g (D.length * 4 + 1) cur 64 (0, 0) _ hg, setRow_heap W g _ _ 64 (0, 0) hg]
    · simp only [List.length_append, List.length_cons, List.length_nil] at h1 ⊢; exact h1
    · rw [Array.toList_setIfInBounds, List.take_set]
      have : (D ++ [(x.1, v, x.2.2.1, x.2.2.2)]).length = (D ++ [x]).length := by simp
      rw [this, h4, scells_set]
set_option maxRecDepth 40000 in
set_option maxHeartbeats 4000000 in
theorem mark_spans (lo hi cap n : Nat) (K0 : Int) (a : Option Addr) (w : World) (ho : WR 4 lo hi w a n) (hn : n ≤ 1048576) (h0 : 0 ≤ K0) (hk : K0 ≤ 1125899906842624) :
    Calls Tryz.prog 13 #[.slice a n cap, .int .i64 K0] w fun e w' => e = .returned (.int .i64 (K0 + 4 * (n : Int))) ∧ Mk lo hi w w' ∧ GSeg 4 w' a n (fun i => saL (mkS K0 i)) := by
  by_cases hn0 : n = 0
  · subst hn0
    go_enter Tryz.func13, Tryz.ntmps13
    go_wp2
    refine wp_loop_rounds 1 ?_
    rw [rounds_succ]
    go_wp2
    go_ret
    exact ⟨ret_int (by simp), Mk.refl _ _ _, fun h => absurd h (by omega)⟩
  obtain ⟨B, off, rfl, hB1, hB2, hB3, hc, hf⟩ := ho (by omega)
  have HC : Hid (∀ i j, i < n → j < 4 → ∃ u, w.cell? ⟨B, off + i * 4 + j, none⟩ = some u) := hc
  have HF : Hid (∀ j, w.frozen? ⟨B, j, none⟩ = false) := hf
  have HB : Hid (lo ≤ B ∧ B < hi ∧ B < w.heap.size) := ⟨hB1, hB2, hB3⟩
  clear hc hf ho hB1 hB2 hB3
  go_enter Tryz.func13, Tryz.ntmps13
  go_wp2
  go_loopw [1, 5] (fun t i wr => ∃ (m : Nat) (K : Int), m ≤ n ∧ K = K0 + 4 * (m : Int) ∧ i = .int .i64 m ∧ t = .int .i64 K ∧ Hid (Mk lo hi w wr) ∧ Hid (∀ i, i < m → CellsAt wr B (off + i * 4) (saL (mkS K0 i)))) (fun _ i _ => n - (intOf i).toNat)
  case atStart => exact ⟨0, K0, by omega, by omega, rfl, rfl, Mk.refl _ _ _, fun i hi => by omega⟩
  case round =>
    obtain ⟨m, K, hm, hK, rfl, rfl, HR, HCM⟩ := hrel
    have HKE : Hid (K = K0 + 4 * (m : Int)) := hK
    have hKb : 0 ≤ K ∧ K ≤ 1125899911036928 := by omega
    clear hK
    by_cases hmn : m < n
    rotate_left
    · obtain rfl : m = n := by omega
      have HE : Hid (K = K0 + 4 * (m : Int)) := HKE.out
      clear HKE
      go_wp2
      go_ret
      exact ⟨ret_int HE.out, HR.out, fun _ => ⟨B, off, rfl, Nat.lt_of_lt_of_le HB.out.2.2 HR.out.b.size, HCM.out⟩⟩
    have hmn' : (m : Int) < (n : Int) := by omega
    obtain ⟨u0, c00⟩ := HR.out.c B (off + m * 4 + 0) HB.out.2.2 (HC.out m 0 hmn (by omega))
    obtain ⟨u1, c10⟩ := HR.out.c B (off + m * 4 + 1) HB.out.2.2 (HC.out m 1 hmn (by omega))
    obtain ⟨u2, c20⟩ := HR.out.c B (off + m * 4 + 2) HB.out.2.2 (HC.out m 2 hmn (by omega))
    obtain ⟨u3, c30⟩ := HR.out.c B (off + m * 4 + 3) HB.out.2.2 (HC.out m 3 hmn (by omega))
    have f0 : wr.frozen? ⟨B, off + m * 4, none⟩ = false := (HR.out.f B _ HB.out.2.2).trans (HF.out _)
    have f1 : wr.frozen? ⟨B, off + m * 4 + 1, none⟩ = false := (HR.out.f B _ HB.out.2.2).trans (HF.out _)
    have f2 : wr.frozen? ⟨B, off + m * 4 + 2, none⟩ = false := (HR.out.f B _ HB.out.2.2).trans (HF.out _)
    have f3 : wr.frozen? ⟨B, off + m * 4 + 3, none⟩ = false := (HR.out.f B _ HB.out.2.2).trans (HF.out _)
    rw [Nat.add_zero] at c00
    have d1 : (wr.setCell ⟨B, off + m * 4, none⟩ (.int .i64 K)).cell? ⟨B, off + m * 4 + 1, none⟩ = some u1 := by rw [World.cell?_setCell_other _ _ _ _ (by simp)]; exact c10
    have d2 : ((wr.setCell ⟨B, off + m * 4, none⟩ (.int .i64 K)).setCell ⟨B, off + m * 4 + 1, none⟩ (.int .i64 (K + 1))).cell? ⟨B, off + m * 4 + 2, none⟩ = some u2 := by rw [World.cell?_setCell_other _ _ _ _ (by simp), World.cell?_setCell_other _ _ _ _ (by simp)]; exact c20
    have d3 : (((wr.setCell ⟨B, off + m * 4, none⟩ (.int .i64 K)).setCell ⟨B, off + m * 4 + 1, none⟩ (.int .i64 (K + 1))).setCell ⟨B, off + m * 4 + 2, none⟩ (.int .i64 (K + 2))).cell? ⟨B, off + m * 4 + 3, none⟩ = some u3 := by rw [World.cell?_setCell_other _ _ _ _ (by simp), World.cell?_setCell_other _ _ _ _ (by simp), World.cell?_setCell_other _ _ _ _ (by simp)]; exact c30
    have HR2 : Hid (Mk lo hi w ((((wr.setCell ⟨B, off + m * 4, none⟩ (.int .i64 K)).setCell ⟨B, off + m * 4 + 1, none⟩ (.int .i64 (K + 1))).setCell ⟨B, off + m * 4 + 2, none⟩ (.int .i64 (K + 2))).setCell ⟨B, off + m * 4 + 3, none⟩ (.int .i64 (K + 3)))) := ((((HR.out.set HB.out.1 HB.out.2.1).set HB.out.1 HB.out.2.1).set HB.out.1 HB.out.2.1).set HB.out.1 HB.out.2.1)
    have HC2 : Hid (∀ i, i < m + 1 → CellsAt ((((wr.setCell ⟨B, off + m * 4, none⟩ (.int .i64 K)).setCell ⟨B, off + m * 4 + 1, none⟩ (.int .i64 (K + 1))).setCell ⟨B, off + m * 4 + 2, none⟩ (.int .i64 (K + 2))).setCell ⟨B, off + m * 4 + 3, none⟩ (.int .i64 (K + 3))) B (off + i * 4) (saL (mkS K0 i))) := fun i hi j v hj => by
      have hj4 : j < 4 := by
        have := (List.getElem?_eq_some_iff.1 hj).1
        simpa [saL] using this
      by_cases e : i = m
      · subst e
        have hk := HKE.out
        have hmk : mkS K0 i = (K, K + 1, K + 2, K + 3) := by unfold mkS; rw [← hk]
        rw [hmk] at hj
        have : j = 0 ∨ j = 1 ∨ j = 2 ∨ j = 3 := by omega
        rcases this with rfl | rfl | rfl | rfl
        · simp [saL] at hj
          subst hj
          rw [Nat.add_zero, World.cell?_setCell_other _ _ _ _ (by simp), World.cell?_setCell_other _ _ _ _ (by simp), World.cell?_setCell_other _ _ _ _ (by simp)]
          exact World.cell?_setCell_same _ _ _ c00
        · simp [saL] at hj
          subst hj
          rw [World.cell?_setCell_other _ _ _ _ (by simp), World.cell?_setCell_other _ _ _ _ (by simp)]
          exact World.cell?_setCell_same _ _ _ d1
        · simp [saL] at hj
          subst hj
          rw [World.cell?_setCell_other _ _ _ _ (by simp)]
          exact World.cell?_setCell_same _ _ _ d2
        · simp [saL] at hj
          subst hj
          exact World.cell?_setCell_same _ _ _ d3
      · have h0 := HCM.out i (by omega) j v hj
        rw [World.cell?_setCell_other _ _ _ _ (by intro c; injection c with c1 c2 c3; omega), World.cell?_setCell_other _ _ _ _ (by intro c; injection c with c1 c2 c3; omega), World.cell?_setCell_other _ _ _ _ (by intro c; injection c with c1 c2 c3; omega), World.cell?_setCell_other _ _ _ _ (by intro c; injection c with c1 c2 c3; omega)]
        exact h0
    have HK2 : Hid (K + 4 = K0 + 4 * ((m + 1 : Nat) : Int)) := by have := HKE.out; show _ = _; omega
    have hw1 : IntKind.i64.wrap (K + 1) = K + 1 := by rw [IntKind.wrap_i64]; omega
    have hw2 : IntKind.i64.wrap (K + 1 + 1) = K + 2 := by rw [IntKind.wrap_i64]; omega
    have hw3 : IntKind.i64.wrap (K + 2 + 1) = K + 3 := by rw [IntKind.wrap_i64]; omega
    have hw4 : IntKind.i64.wrap (K + 3 + 1) = K + 4 := by rw [IntKind.wrap_i64]; omega
    clear HR HKE HCM
    go_wp2
    go_roundw
    case rel => exact ⟨m + 1, K + 4, by omega, HK2.out, by go_num, by first | rfl | go_num, HR2.out, HC2.out⟩
    case measure => simp [intOf]; omega
set_option maxHeartbeats 2000000 in
theorem held_spans (a : Option Addr) (cap n : Nat) (K0 : Int) (w : World) (hs : GSeg 4 w a n (fun i => saL (mkS K0 i))) (hn : n ≤ 1048576) (h0 : 0 ≤ K0) (hk : K0 ≤ 1000) :
    Calls Tryz.prog 14 #[.slice a n cap, .int .i64 K0] w fun e w' => e = .returned (.int .i64 (K0 + 4 * (n : Int))) ∧ w' = w := by
  have HS : Hid _ := hs
  clear hs
  go_enter Tryz.func14, Tryz.ntmps14
  go_wp2
  go_loopw [1, 5] (fun t i wr => ∃ (m : Nat) (K : Int), m ≤ n ∧ K = K0 + 4 * (m : Int) ∧ i = .int .i64 m ∧ t = .int .i64 K ∧ wr = w) (fun _ i _ => n - (intOf i).toNat)
  case atStart => exact ⟨0, K0, by omega, by omega, rfl, rfl, rfl⟩
  case round =>
    obtain ⟨m, K, hm, hK, rfl, rfl, rfl⟩ := hrel
    have HKE : Hid (K = K0 + 4 * (m : Int)) := hK
    have hKb : 0 ≤ K ∧ K ≤ 6000000 := by omega
    clear hK
    by_cases hlt : m < n
    · have hlt' : (m : Int) < (n : Int) := by omega
      obtain ⟨b1, o1, rfl, hbl1, p1⟩ := GSeg.at HS.out m hlt
      have hmk : mkS K0 m = (K, K + 1, K + 2, K + 3) := by unfold mkS; rw [← HKE.out]
      rw [hmk] at p1
      obtain ⟨c0, c1, c2, c3⟩ := sa_cells p1
      simp only at c0 c1 c2 c3
      have HK2 : Hid (K + 4 = K0 + 4 * ((m + 1 : Nat) : Int)) := by have := HKE.out; show _ = _; omega
      have hw1 : IntKind.i64.wrap (K + 1) = K + 1 := by rw [IntKind.wrap_i64]; omega
      have hw2 : IntKind.i64.wrap (K + 1 + 1) = K + 2 := by rw [IntKind.wrap_i64]; omega
      have hw3 : IntKind.i64.wrap (K + 2 + 1) = K + 3 := by rw [IntKind.wrap_i64]; omega
      have hw4 : IntKind.i64.wrap (K + 3 + 1) = K + 4 := by rw [IntKind.wrap_i64]; omega
      clear hbl1 p1 hmk HKE
      go_wp2
      go_roundw
      case rel => exact ⟨m + 1, K + 4, by omega, HK2.out, by go_num, by first | rfl | go_num, by first | rfl | trivial⟩
      case measure => simp [intOf]; omega
    · obtain rfl : m = n := by omega
      go_wp2
      go_ret
      exact ⟨ret_int HKE.out, rfl⟩
end Go.Proofs.YtphdijkpjjokaaaGreatDoor
