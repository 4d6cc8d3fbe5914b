
/-
  A region that draws its order, by an invariant: what holds of the operations that have come up so far, of the frame and of the world. No function of the program in sight; no conditions but those that each fact names.
-/
import Derived.Test.YthlapikcjiajgaaDoorBas
import Derived.Test.YthlapikcjiajgaaDoorSegs
import Derived.RegionTactic
namespace Go.Proofs.YthlapikcjiajgaaDoor
open Go.ChangeShapes Go.WideShapes Go.ChangeAt Go.RowKit Go.Deep
set_option linter.unusedVariables false

/-- How many have not come up. -/
def left (L : Array Bool) : Nat := L.toList.count false
theorem left_set {L : Array Bool} {i : Nat} (h : L.getD i true = false) : left (L.setIfInBounds i true) + 1 = left L := by
  have hi : i < L.size := by
    rcases Nat.lt_or_ge i L.size with g | g
    · exact g
    · simp [Array.getD, Nat.not_lt.2 g] at h
  have hv : L[i] = false := by simpa [Array.getD, hi] using h
  obtain ⟨l⟩ := L
  unfold left
  simp only [List.setIfInBounds_toArray, List.getElem_toArray] at *
  induction l generalizing i with
  | nil => simp at hi
  | cons x xs ih =>
    cases i with
    | zero =>
      simp at hv
      subst hv
      simp
    | succ i =>
      have := ih (i := i) (by simpa using h) (by simpa using hi) (by simpa using hv)
      simp only [List.set_cons_succ, List.count_cons]
      omega
theorem getD_set_eq {L : Array Bool} {i : Nat} (h : L.getD i true = false) : (L.setIfInBounds i true).getD i false = true := by
  have hi : i < L.size := by
    rcases Nat.lt_or_ge i L.size with g | g
    · exact g
    · simp [Array.getD, Nat.not_lt.2 g] at h
  simp [Array.getD, hi]
theorem getD_set_other {L : Array Bool} {i j : Nat} (h : i ≠ j) (d : Bool) : (L.setIfInBounds i true).getD j d = L.getD j d := by
  simp only [Array.getD_eq_getD_getElem?, Array.getElem?_setIfInBounds, if_neg h]
theorem wpAny_inv {P : Program} {md : Region.Mode} {ops : Array Oper} {Q : Exit → Act → World → Prop} (I : Array Bool → Act → World → Prop)
    (hd : ∀ L a w, I L a w → Region.ready md ops L = [] → Q .normal a w)
    (hs : ∀ L a w i, I L a w → i ∈ Region.ready md ops L → wpOp P ops Q i (I (L.setIfInBounds i true)) a w) :
    ∀ (fuel : Nat) (L : Array Bool) (a : Act) (w : World), left L ≤ fuel → I L a w → wpAny P md ops Q fuel L a w := by
  intro fuel
  induction fuel with
  | zero =>
    intro L a w hf hI
    have hr : Region.ready md ops L = [] := by
      cases hr : Region.ready md ops L with
      | nil => rfl
      | cons x xs =>
        have hx : x ∈ Region.ready md ops L := by rw [hr]; simp
        have := left_set (mem_ready.1 hx).1
        omega
    exact ⟨hr, hd L a w hI hr⟩
  | succ fuel ih =>
    intro L a w hf hI
    refine ⟨hd L a w hI, fun i hi => wpOp_mono (fun a' w' h => ?_) (hs L a w i hI hi)⟩
    have := left_set (mem_ready.1 hi).1
    exact ih _ a' w' (by omega) h
/-- All have come up, when none may. -/
theorem all_listed {md : Region.Mode} {ops : Array Oper} {L : Array Bool} (hsz : L.size = ops.size) (hac : ∀ (i : Nat) (o : Oper), ops[i]? = some o → ∀ e ∈ o.after, Region.binds md e = true → e.on < i) (hr : Region.ready md ops L = []) : ∀ i, i < ops.size → L.getD i false = true := by
  intro i
  induction i using Nat.strongRecOn with
  | ind i ih =>
    intro hi
    cases hL : L.getD i false with
    | true => rfl
    | false =>
      exfalso
      have h1 : L.getD i true = false := by
        simp [Array.getD, hsz, hi] at hL ⊢
        exact hL
      have : i ∈ Region.ready md ops L := mem_ready.2 ⟨h1, ops[i], by simp [hi], fun e he hbd => by
        have := hac i ops[i] (by simp [hi]) e he hbd
        exact ih e.on this (by omega)⟩
      rw [hr] at this
      cases this
theorem wp_region_inv {P : Program} {id : Nat} {ops : Array Oper} {Q : Exit → Act → World → Prop} {a0 : Act} {w0 : World} (hm : P.follows .mixedOrders = true)
    (hac : (List.range ops.size).all (fun i => ((ops[i]?).map (·.after.all fun e => !Region.binds .any e || decide (e.on < i))).getD true) = true)
    (I : Act → (Nat → Bool) → Act → World → Prop) (h0 : I a0 (fun _ => false) a0 w0.drew)
    (hd : ∀ ℓ a w, I a0 ℓ a w → (∀ i, i < ops.size → ℓ i = true) → Q .normal a w)
    (hs : ∀ ℓ a w i o, I a0 ℓ a w → ops[i]? = some o → i < ops.size → ℓ i = false → (∀ e ∈ o.after, Region.binds .any e = true → ℓ e.on = true) →
      ∀ K : Act → World → Prop, Hid (∀ a' w' ℓ', I a0 ℓ' a' w' → ℓ' i = true → (∀ j, j ≠ i → ℓ' j = ℓ j) → K a' w') → if Region.wanted o (yielded ops a.tmps) = true then Oper.wp P o a w K Q else K (a.put o.dst undef) w)
    (hI : ∀ a w ℓ ℓ', (∀ j, ℓ j = ℓ' j) → I a0 ℓ a w → I a0 ℓ' a w) :
    (Code.region id ops true).wp P Q a0 w0 := by
  have hac' : ∀ (i : Nat) (o : Oper), ops[i]? = some o → ∀ e ∈ o.after, Region.binds .any e = true → e.on < i := by
    intro i o ho e he hbd
    have hi : i < ops.size := by
      rcases Nat.lt_or_ge i ops.size with g | g
      · exact g
      · rw [Array.getElem?_eq_none g] at ho; cases ho
    have := List.all_eq_true.1 hac i (List.mem_range.2 hi)
    rw [ho] at this
    simp at this
    obtain ⟨k, hk, rfl⟩ := Array.getElem_of_mem he
    exact (this k hk).resolve_left (by rw [hbd]; decide)
  refine wp_region_any hm ?_
  refine wpAny_inv (I := fun L a w => L.size = ops.size ∧ I a0 (fun j => L.getD j false) a w) ?_ ?_ _ _ _ _ (by unfold left; simp) ⟨by simp, ?_⟩
  · rintro L a w ⟨hsz, h⟩ hr
    exact hd _ a w h (all_listed hsz hac' hr)
  · rintro L a w i ⟨hsz, h⟩ hi
    obtain ⟨h1, o, ho, hdep⟩ := mem_ready.1 hi
    have hlt : i < ops.size := by
      rcases Nat.lt_or_ge i ops.size with g | g
      · exact g
      · rw [Array.getElem?_eq_none g] at ho; cases ho
    refine wpOp_step ho fun K hK => hs (fun j => L.getD j false) a w i o h ho hlt ?_ hdep K (show _ from fun a' w' ℓ' hI' h1' h2' => hK a' w' ⟨by simp [hsz], hI _ _ _ _ (fun j => ?_) hI'⟩)
    · simp [Array.getD, hsz, hlt] at h1 ⊢
      exact h1
    · by_cases hj : j = i
      · subst hj
        rw [h1', getD_set_eq h1]
      · rw [h2' j hj, getD_set_other (fun e => hj e.symm)]
  · refine hI _ _ _ _ (fun j => ?_) h0
    simp [Array.getD]
end Go.Proofs.YthlapikcjiajgaaDoor
