/-
  A branch to a label is never too far: plain facts on the readings. No function of the program in sight; no conditions but those that each fact names.
-/
import Derived.Test.YtdjapcfejmhjnaaGreatDoorFlt
namespace Go.Proofs.YtdjapcfejmhjnaaGreatDoor
open Go.ChangeShapes Go.WideShapes Go.ChangeAt Go.RowKit Go.Deep
set_option linter.unusedVariables false
set_option maxRecDepth 20000
namespace Rl
theorem take1_val {q : Bool} {r r' : List ByteArray} {n : Int} (h : take1 q r = some (n, r')) : 0 ≤ n ∧ n ≤ 15 ∧ (q = false → n = 0) := by
  cases q with
  | false =>
    simp [take1] at h
    exact ⟨by omega, by omega, fun _ => by omega⟩
  | true =>
    cases r with
    | nil => simp [take1] at h
    | cons x r =>
      simp [take1] at h
      obtain ⟨y, h1, rfl, h2⟩ := h
      have := reg_back x _ h1
      exact ⟨this.1, this.2.1, fun c => by cases c⟩
theorem imm_four {k : Nat} {a b c : Int} {x : ByteArray} (h : (immOf k a b c x).kind = 4) : immOf k a b c x = ⟨4, k, a, b, c, 0, 0, x⟩ ∧ isBr k = true := by
  unfold immOf at h ⊢
  by_cases c1 : (isBr k && Lab.ok (Tx.nums x)) = true
  · rw [if_pos c1]
    simp at c1
    exact ⟨rfl, c1.1⟩
  · rw [if_neg c1] at h
    cases hx : Dc.ans (Tx.nums x) 8192 with
    | none => rw [hx] at h; simp at h
    | some n =>
      rw [hx] at h
      simp only at h
      split at h <;> simp at h
theorem fin_four {q : Bool} {k : Nat} {a b c : Int} {r : List ByteArray} (h : (fin q k a b c r).kind = 4) : (∃ x, fin q k a b c r = ⟨4, k, a, b, c, 0, 0, x⟩) ∧ isBr k = true := by
  unfold fin at h ⊢
  split at h
  · simp at h
  · obtain ⟨h1, h2⟩ := imm_four h
    exact ⟨⟨_, h1⟩, h2⟩
  · simp at h
/-- A branch to a label is right at every distance that fits. -/
theorem rdI_four {k : Nat} {r : List ByteArray} (hk : k < 33) (h : (rdI k r).kind = 4) (m : Int) (h0 : -8192 ≤ m) (h1 : m ≤ 8191) : instrOk (rdI k r).op (rdI k r).a (rdI k r).b (rdI k r).c m = true := by
  have key : ∃ a b c x, rdI k r = ⟨4, k, a, b, c, 0, 0, x⟩ ∧ isBr k = true ∧ (0 ≤ a ∧ a ≤ 15 ∧ ((form k % 2 == 1) = false → a = 0)) ∧ (0 ≤ b ∧ b ≤ 15 ∧ ((form k / 2 % 2 == 1) = false → b = 0)) ∧ (0 ≤ c ∧ c ≤ 15 ∧ ((form k / 4 % 2 == 1) = false → c = 0)) := by
    unfold rdI k0 at h ⊢
    cases e1 : take1 (form k % 2 == 1) r with
    | none => rw [e1] at h; simp at h
    | some p1 =>
      obtain ⟨a, r1⟩ := p1
      rw [e1] at h
      simp only [k1] at h ⊢
      cases e2 : take1 (form k / 2 % 2 == 1) r1 with
      | none => rw [e2] at h; simp at h
      | some p2 =>
        obtain ⟨b, r2⟩ := p2
        rw [e2] at h
        simp only [k2] at h ⊢
        cases e3 : take1 (form k / 4 % 2 == 1) r2 with
        | none => rw [e3] at h; simp at h
        | some p3 =>
          obtain ⟨c, r3⟩ := p3
          rw [e3] at h
          simp only at h ⊢
          obtain ⟨⟨x, hx⟩, hb⟩ := fin_four h
          exact ⟨a, b, c, x, hx, hb, take1_val e1, take1_val e2, take1_val e3⟩
  obtain ⟨a, b, c, x, e, hb, ⟨ha0, ha1, ha⟩, ⟨hb0, hb1, hbz⟩, ⟨hc0, hc1, hcz⟩⟩ := key
  rw [e]
  show instrOk (k : Int) a b c m = true
  have hb' : 19 ≤ k ∧ k ≤ 22 := by simpa [isBr] using hb
  have hkk : k = 19 ∨ k = 20 ∨ k = 21 ∨ k = 22 := by omega
  rcases hkk with rfl | rfl | rfl | rfl
  · rw [instrOk_yes 19 a b c m 11 (by omega) (by decide)]
    have := hcz (by decide)
    simp [fld]; omega
  · rw [instrOk_yes 20 a b c m 11 (by omega) (by decide)]
    have := hcz (by decide)
    simp [fld]; omega
  · rw [instrOk_yes 21 a b c m 11 (by omega) (by decide)]
    have := hcz (by decide)
    simp [fld]; omega
  · rw [instrOk_yes 22 a b c m 9 (by omega) (by decide)]
    have := hcz (by decide)
    have := hbz (by decide)
    simp [fld]; omega
theorem opN_lt {x : ByteArray} {k : Nat} (h : opN x = some k) : k < 33 := by
  have := List.mem_of_find?_eq_some h
  exact List.mem_range.1 this
theorem line_four (s : ByteArray) (h : (line s).kind = 4) (m : Int) (h0 : -8192 ≤ m) (h1 : m ≤ 8191) : instrOk (line s).op (line s).a (line s).b (line s).c m = true := by
  unfold line at h ⊢
  by_cases c1 : 80 < s.size
  · rw [if_pos c1] at h; simp at h
  · rw [if_neg c1] at h ⊢
    by_cases c2 : (colon s && Lab.ok (Tx.nums (ahead s))) = true
    · rw [if_pos c2] at h; simp at h
    · rw [if_neg c2] at h ⊢
      cases e : Sp.texts 32 s with
      | nil => rw [e] at h; simp at h
      | cons w r =>
        rw [e] at h
        simp only [rd] at h ⊢
        by_cases c3 : w = dotW
        · rw [if_pos c3] at h
          unfold rdW at h
          split at h
          · split at h
            · split at h <;> simp at h
            · simp at h
          · simp at h
        · rw [if_neg c3] at h ⊢
          cases e2 : opN w with
          | none => rw [e2] at h; simp at h
          | some k =>
            rw [e2] at h
            simp only at h ⊢
            exact rdI_four (opN_lt e2) h m h0 h1
end Rl
namespace Am
/-- How many words a list of lines holds. -/
def words (l : List Rl.A8) : Nat := (l.filter fun a => !decide (a.kind = 1)).length
theorem scan_small : ∀ (l : List Rl.A8) (k n : Nat) (ls : Labs), (scan l k n ls).1 = 0 → n ≤ 256 → (∀ p ∈ ls, p.2 ≤ 256) → n + words l ≤ 256 ∧ ∀ p ∈ (scan l k n ls).2.2, p.2 ≤ 256
  | [], k, n, ls, h, hn, hp => ⟨by simp [words]; exact hn, hp⟩
  | a :: l, k, n, ls, h, hn, hp => by
    by_cases c0 : a.kind = 0
    · simp [scan, c0] at h
    · by_cases c1 : a.kind = 1
      · by_cases c2 : 0 ≤ find ls a.lab
        · simp [scan, c1, c2] at h
        · have e : scan (a :: l) k n ls = scan l (k + 1) n (ls ++ [(a.lab, (n : Int))]) := by rw [scan, if_neg c0, if_pos c1, if_neg c2]
          rw [e] at h ⊢
          have ih := scan_small l (k + 1) n _ h hn (fun p hm => by
            rcases List.mem_append.1 hm with hm | hm
            · exact hp p hm
            · simp at hm; subst hm; simp; omega)
          refine ⟨?_, ih.2⟩
          have : words (a :: l) = words l := by simp [words, c1]
          rw [this]; exact ih.1
      · by_cases c2 : 256 ≤ n
        · simp [scan, c0, c1, c2] at h
        · have e : scan (a :: l) k n ls = scan l (k + 1) (n + 1) ls := by rw [scan, if_neg c0, if_neg c1, if_neg c2]
          rw [e] at h ⊢
          have ih := scan_small l (k + 1) (n + 1) _ h (by omega) hp
          refine ⟨?_, ih.2⟩
          have : words (a :: l) = words l + 1 := by simp [words, c1]
          rw [this]; omega
theorem find_small (ls : Labs) (x : ByteArray) (hp : ∀ p ∈ ls, p.2 ≤ 256) : find ls x ≤ 256 := by
  induction ls with
  | nil => simp [find]
  | cons p ls ih =>
    rw [find]
    split
    · exact hp p (by simp)
    · exact ih (fun q hq => hp q (by simp [hq]))
theorem link_near : ∀ (l : List ByteArray) (k : Nat) (ws : List Int) (ls : Labs), ws.length + words (l.map Rl.line) ≤ 256 → (∀ p ∈ ls, p.2 ≤ 256) → (link (l.map Rl.line) k ws ls).2.1 ≠ 6
  | [], k, ws, ls, hw, hp => by simp [link]
  | s :: l, k, ws, ls, hw, hp => by
    have hcons : words ((s :: l).map Rl.line) = (if (Rl.line s).kind = 1 then 0 else 1) + words (l.map Rl.line) := by
      simp only [words, List.map_cons, List.filter_cons]
      by_cases c : (Rl.line s).kind = 1
      · simp [c]
      · simp [c]; omega
    rw [hcons] at hw
    rw [List.map_cons, link]
    split
    · rename_i c
      rw [if_neg (by omega)] at hw
      exact link_near l _ _ _ (by simp; omega) hp
    · split
      · rename_i c
        rw [if_neg (by omega)] at hw
        exact link_near l _ _ _ (by simp; omega) hp
      · split
        · rename_i c
          rw [if_neg (by omega)] at hw
          split
          · simp
          · rename_i cf
            have hf := find_small ls (Rl.line s).lab hp
            rw [if_pos (Rl.line_four s c _ (by omega) (by omega))]
            exact link_near l _ _ _ (by simp; omega) hp
        · refine link_near l _ _ _ ?_ hp
          split at hw <;> omega
theorem all_near (s : ByteArray) : (all s).2.2.1 ≠ 6 := by
  unfold all
  split
  · simp only
    split
    · rcases scan_codes ((Ln.pieces s).map Rl.line) 0 0 [] with e | e | e | e <;> rw [e] <;> decide
    · rename_i h
      have h' : (scan ((Ln.pieces s).map Rl.line) 0 0 []).1 = 0 := by simpa using h
      have := scan_small _ 0 0 [] h' (by omega) (by simp)
      exact link_near _ 0 [] _ (by simpa using this.1) this.2
  · decide
end Am
end Go.Proofs.YtdjapcfejmhjnaaGreatDoor
