
/-
  The first cycles of a partition's slots, as a list: plain facts of sound tables. No function of the program in sight; no conditions but those that each fact names.
-/
import Derived.Test.YtmgopppgckgglaaGreatDoorBas
import Derived.Test.YtmgopppgckgglaaGreatDoorTir
import Derived.Test.YtmgopppgckgglaaGreatDoorOni
namespace Go.Proofs.YtmgopppgckgglaaGreatDoor
open Go.ChangeShapes Go.WideShapes Go.ChangeAt Go.RowKit Go.Deep Go.Joins
set_option linter.unusedVariables false

/-- The first cycles of slots of x among n cycles from c on. -/
def stL (t : Tb) (x c : Int) : Nat → List Int
  | 0 => []
  | n + 1 => stL t x c n ++ (if firV t ((c + (n : Int)) % t.maj) = x then [c + (n : Int)] else [])
theorem stL_len (t : Tb) (x c : Int) (n : Nat) : (stL t x c n).length ≤ n := by
  induction n with
  | zero => simp [stL]
  | succ n ih =>
    simp only [stL, List.length_append]
    split <;> simp <;> omega
theorem stL_none {t : Tb} {x c : Int} {m : Nat} (hx : 0 ≤ x) : ∀ n, (∀ k : Nat, m ≤ k → k < m + n → firV t ((c + (k : Int)) % t.maj) = -1) → stL t x c (m + n) = stL t x c m := by
  intro n
  induction n with
  | zero => intro _; rfl
  | succ n ih =>
    intro h
    show stL t x c (m + n) ++ (if firV t ((c + ((m + n : Nat) : Int)) % t.maj) = x then [c + ((m + n : Nat) : Int)] else []) = _
    rw [ih (fun k h1 h2 => h k h1 (by omega)), h (m + n) (by omega) (by omega), if_neg (by omega), List.append_nil]
theorem fir_none {t : Tb} (h : Tm t) {p : Int} (hn : ∀ i, i < t.ss.length → (t.ss.getD i sl0).2.1 ≠ p) : firV t p = -1 := by
  rcases firV_cases h p with ⟨g, _⟩ | ⟨i, hi, e, _⟩
  · exact g
  · exact absurd e (hn i hi)
theorem st_inj {t : Tb} (h : Tm t) {i j : Nat} (hi : i < t.ss.length) (hj : j < t.ss.length) (e : (t.ss.getD i sl0).2.1 = (t.ss.getD j sl0).2.1) : i = j := by
  have h1 := h.pad1
  have h2 := h.grd1
  have h3 := h.ln i hi
  have h4 := h.ln j hj
  by_cases g : i < j
  · have := h.od i j g hj; omega
  · by_cases g2 : j < i
    · have := h.od j i g2 hi; omega
    · omega
theorem fir_at {t : Tb} (h : Tm t) {p : Int} {i : Nat} (hi : i < t.ss.length) (e : (t.ss.getD i sl0).2.1 = p) : firV t p = (t.ss.getD i sl0).1 := by
  rcases firV_cases h p with ⟨_, g⟩ | ⟨j, hj, e2, g⟩
  · exact absurd e (g i hi)
  · rw [g, st_inj h hi hj (e.trans e2.symm)]
/-- Behind the next turn nothing begins ahead of it. -/
theorem stL_turn {t : Tb} (h : Tm t) {x c d r : Int} {i : Nat} (hx : 0 ≤ x) (hT : TN t d i r) (hc : c ≤ d) (z : Int) (h1 : d ≤ z) (h2 : z ≤ r) : stL t x c (z - c).toNat = stL t x c (d - c).toNat := by
  have e : (z - c).toNat = (d - c).toNat + (z - d).toNat := by omega
  rw [e]
  refine stL_none hx _ (fun k k1 k2 => fir_none h (fun j hj => ?_))
  exact hT.2.2.1.2.2 (c + (k : Int)) (by omega) (by omega) j hj
theorem stL_hit {t : Tb} (h : Tm t) {x c d r : Int} {i : Nat} (hx : 0 ≤ x) (hT : TN t d i r) (hc : c ≤ d) : stL t x c (r + 1 - c).toNat = stL t x c (d - c).toNat ++ (if (t.ss.getD i sl0).1 = x then [r] else []) := by
  have hr := hT.2.2.1.1
  have e : (r + 1 - c).toNat = (r - c).toNat + 1 := by omega
  rw [e]
  show stL t x c (r - c).toNat ++ _ = _
  rw [stL_turn h hx hT hc r hr (Int.le_refl _), show c + ((r - c).toNat : Int) = r by omega, fir_at h hT.1 hT.2.1]
/-- What SlotStarts lists. -/
def startsV (t : Tb) (x y z : Int) (zs : List Int) : Prop := (¬ ((Sd t ∧ IsC y) ∧ IsC z ∧ 0 ≤ x ∧ x < (t.ps.length : Int)) ∧ zs = []) ∨ (((Sd t ∧ IsC y) ∧ IsC z ∧ 0 ≤ x ∧ x < (t.ps.length : Int)) ∧ zs = stL t x y (z - y).toNat)
theorem startsV.unique {t : Tb} {x y z : Int} {zs us : List Int} (h : startsV t x y z zs) (g : startsV t x y z us) : zs = us := by
  rcases h with ⟨h, rfl⟩ | ⟨h, h1⟩ <;> rcases g with ⟨g, rfl⟩ | ⟨g, g1⟩
  · rfl
  · exact absurd g h
  · exact absurd h g
  · rw [h1, g1]
theorem starts_ex (t : Tb) (x y z : Int) : ∃ zs, startsV t x y z zs ∧ zs.length ≤ 50000 := by
  by_cases h : (Sd t ∧ IsC y) ∧ IsC z ∧ 0 ≤ x ∧ x < (t.ps.length : Int)
  · refine ⟨_, .inr ⟨h, rfl⟩, ?_⟩
    have := stL_len t x y (z - y).toNat
    have h1 := h.1.2.1
    have h2 := h.2.1.2
    omega
  · exact ⟨_, .inl ⟨h, rfl⟩, by simp⟩
/-- The list, also for a number that is no partition's. -/
def stM (t : Tb) (x y : Int) (n : Nat) : List Int := if 0 ≤ x ∧ x < (t.ps.length : Int) then stL t x y n else []
theorem stM_len (t : Tb) (x y : Int) (n : Nat) : (stM t x y n).length ≤ n := by
  unfold stM
  split
  · exact stL_len t x y n
  · simp
theorem stM_zero (t : Tb) (x y : Int) : stM t x y (y - y).toNat = [] := by
  rw [Int.sub_self]
  unfold stM
  split <;> rfl
theorem stM_turn {t : Tb} (h : Tm t) {x c d r : Int} {i : Nat} (hT : TN t d i r) (hc : c ≤ d) (z : Int) (h1 : d ≤ z) (h2 : z ≤ r) : stM t x c (z - c).toNat = stM t x c (d - c).toNat := by
  unfold stM
  split
  · rename_i hx
    exact stL_turn h hx.1 hT hc z h1 h2
  · rfl
theorem stM_hit {t : Tb} (h : Tm t) {x c d r : Int} {i : Nat} (hT : TN t d i r) (hc : c ≤ d) (he : (t.ss.getD i sl0).1 = x) : stM t x c (r + 1 - c).toNat = stM t x c (d - c).toNat ++ [r] := by
  have hx := h.pt i hT.1
  rw [he] at hx
  unfold stM
  rw [if_pos hx, if_pos hx, stL_hit h hx.1 hT hc, if_pos he]
theorem stM_miss {t : Tb} (h : Tm t) {x c d r : Int} {i : Nat} (hT : TN t d i r) (hc : c ≤ d) (he : ¬ (t.ss.getD i sl0).1 = x) : stM t x c (r + 1 - c).toNat = stM t x c (d - c).toNat := by
  unfold stM
  split
  · rename_i hx
    rw [stL_hit h hx.1 hT hc, if_neg he, List.append_nil]
  · rfl
theorem starts_stM {t : Tb} {x y z : Int} {zs : List Int} (h : startsV t x y z zs) (hs : (Sd t ∧ IsC y) ∧ IsC z) : zs = stM t x y (z - y).toNat := by
  unfold stM
  rcases h with ⟨h, rfl⟩ | ⟨h, h1⟩
  · rw [if_neg (fun g => h ⟨hs.1, hs.2, g⟩)]
  · rw [if_pos h.2.2, h1]
/-- What the turn's block tells. -/
def curR (v : Value) (w : World) : Int := match v with | .pointer (some p) => (match w.cell? ⟨p.block, 1, none⟩ with | some (.int _ q) => q | _ => 0) | _ => 0
theorem curR_at {w : World} {N : Nat} {x y z : Int} (h : SRow w N #[.int .i64 x, .int .i64 y, .int .i64 z]) : curR (.pointer (some ⟨N, 0, none⟩)) w = y := by
  have hc : w.cell? ⟨N, 1, none⟩ = some (.int .i64 y) := by
    unfold SRow at h
    simp [World.cell?, h]
  unfold curR
  simp only [hc]
theorem SRow.cell {w : World} {N : Nat} {cs : Array Value} (h : SRow w N cs) (j : Nat) {v : Value} (hj : cs[j]? = some v) : w.cell? ⟨N, j, none⟩ = some v := by
  unfold SRow at h
  simp [World.cell?, h, hj]
theorem OwnI.row {w : World} {base N : Nat} {v : Value} {zs : List Int} (h : OwnI w base v zs) (cs : Array Value) (hne : ∀ g, v.ownBlock = some g → g ≠ N) : OwnI (w.setRow N cs) base v zs :=
  h.kept (row := some N) ⟨rfl, rfl, rfl, by simp [World.setRow], fun k hk hn => setRow_other w N k cs (fun e => hn (by rw [e]))⟩ (fun g hg e => hne g hg (Option.some.inj e).symm)
end Go.Proofs.YtmgopppgckgglaaGreatDoor
