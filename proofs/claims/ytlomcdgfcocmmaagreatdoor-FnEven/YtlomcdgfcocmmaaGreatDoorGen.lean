/-
  A region that draws its order, whose operations only read and whose callees only make new memory: one walk, in the order of the text, serves every order. No function of the program in sight; no conditions but those that each fact names.
  A region that draws its order, by an invariant: what holds of the operations that have come up so far, of the frame and of the world. No function of the program in sight; no conditions but those that each fact names.
  Rows of structs in memory, whatever the struct: its cells, a list of them, a block that is laid row by row. No function of the program in sight; no conditions but those that each fact names.
-/
import Derived.Test.YtlomcdgfcocmmaaGreatDoorBas
import Derived.BigQuiet
import Derived.RegionTactic
namespace Go.Proofs.YtlomcdgfcocmmaaGreatDoor
open Go.ChangeShapes Go.WideShapes Go.ChangeAt Go.RowKit Go.Deep
set_option linter.unusedVariables false

/-- A world in which all that lay in 'W0' lies as it lay. -/
structure Gr (W0 : World) where
  w : World
  h : Below W0.heap.size W0 w
theorem gr_some (W0 : World) : Nonempty (Gr W0) := ⟨⟨W0, Below.refl _ _⟩⟩
theorem region_alike {P : Program} {id : Nat} {Q : Exit → Act → World → Prop} {a : Act} {W0 : World} {l : List Oper} (hm : P.follows .mixedOrders = true) (hB : Region.lexB .any l.toArray = true)
    (h : wpQuiet P l.toArray (fun w' => ∃ x : Gr W0, w' = x.w) (fun a' => ∀ w', (∃ x : Gr W0, w' = x.w) → Q .normal a' w') l a) : (Code.region id l.toArray true).wp P Q a W0 :=
  wp_region_quiet (C := fun w' => ∃ x : Gr W0, w' = x.w) hm hB ⟨⟨_, (Below.refl _ _).drew⟩, rfl⟩ (by simpa using h)
theorem gr_call {P : Program} {f : FuncId} {args : Array Value} {W0 : World} {x : Gr W0} {v : Value} (h : Calls P f args x.w fun e w' => e = .returned v ∧ Below x.w.heap.size x.w w') :
    Calls P f args x.w fun e w'' => e = .returned v ∧ ∃ y : Gr W0, w'' = y.w :=
  h.mono fun e w' ⟨he, hb⟩ => ⟨he, ⟨w', x.h.trans (hb.mono x.h.size)⟩, rfl⟩
theorem gr_same {P : Program} {f : FuncId} {args : Array Value} {W0 : World} {x : Gr W0} {v : Value} (h : Calls P f args x.w fun e w' => e = .returned v ∧ w' = x.w) :
    Calls P f args x.w fun e w'' => e = .returned v ∧ ∃ y : Gr W0, w'' = y.w :=
  h.mono fun e w' ⟨he, hb⟩ => ⟨he, x, hb⟩
theorem gr_cell {W0 : World} {p : Addr} {v : Value} (h : W0.cell? p = some v) (x : Gr W0) : x.w.cell? p = some v :=
  (x.h.cell (World.block_lt_of_cell? W0 _ h)).trans h
end Go.Proofs.YtlomcdgfcocmmaaGreatDoor
namespace Go.Proofs.YtlomcdgfcocmmaaGreatDoor
open Go.ChangeShapes Go.WideShapes Go.ChangeAt Go.RowKit Go.Deep
set_option linter.unusedVariables false

/-- How many have not come up. -/
def left (L : Array Bool) : Nat := L.toList.count false
theorem left_set {L : Array Bool} {i : Nat} (h : L.getD i true = false) : left (L.setIfInBounds i true) + 1 = left L := by
  have hi : i < L.size := by
    rcases Nat.lt_or_ge i L.size with g | g
    · exact g
    · simp [Array.getD, Nat.not_lt.2 g] at h
  have hv : L[i] = false := by simpa [Array.getD, hi] using h
  obtain ⟨l⟩ := L
  unfold left
  simp only [List.setIfInBounds_toArray, List.getElem_toArray] at *
  induction l generalizing i with
  | nil => simp at hi
  | cons x xs ih =>
    cases i with
    | zero =>
      simp at hv
      subst hv
      simp
    | succ i =>
      have := ih (i := i) (by simpa using h) (by simpa using hi) (by simpa using hv)
      simp only [List.set_cons_succ, List.count_cons]
      omega
theorem getD_set_eq {L : Array Bool} {i : Nat} (h : L.getD i true = false) : (L.setIfInBounds i true).getD i false = true := by
  have hi : i < L.size := by
    rcases Nat.lt_or_ge i L.size with g | g
    · exact g
    · simp [Array.getD, Nat.not_lt.2 g] at h
  simp [Array.getD, hi]
theorem getD_set_other {L : Array Bool} {i j : Nat} (h : i ≠ j) (d : Bool) : (L.setIfInBounds i true).getD j d = L.getD j d := by
  simp only [Array.getD_eq_getD_getElem?, Array.getElem?_setIfInBounds, if_neg h]
theorem wpAny_inv {P : Program} {md : Region.Mode} {ops : Array Oper} {Q : Exit → Act → World → Prop} (I : Array Bool → Act → World → Prop)
    (hd : ∀ L a w, I L a w → Region.ready md ops L = [] → Q .normal a w)
    (hs : ∀ L a w i, I L a w → i ∈ Region.ready md ops L → wpOp P ops Q i (I (L.setIfInBounds i true)) a w) :
    ∀ (fuel : Nat) (L : Array Bool) (a : Act) (w : World), left L ≤ fuel → I L a w → wpAny P md ops Q fuel L a w := by
  intro fuel
  induction fuel with
  | zero =>
    intro L a w hf hI
    have hr : Region.ready md ops L = [] := by
      cases hr : Region.ready md ops L with
      | nil => rfl
      | cons x xs =>
        have hx : x ∈ Region.ready md ops L := by rw [hr]; simp
        have := left_set (mem_ready.1 hx).1
        omega
    exact ⟨hr, hd L a w hI hr⟩
  | succ fuel ih =>
    intro L a w hf hI
    refine ⟨hd L a w hI, fun i hi => wpOp_mono (fun a' w' h => ?_) (hs L a w i hI hi)⟩
    have := left_set (mem_ready.1 hi).1
    exact ih _ a' w' (by omega) h
/-- All have come up, when none may. -/
theorem all_listed {md : Region.Mode} {ops : Array Oper} {L : Array Bool} (hsz : L.size = ops.size) (hac : ∀ (i : Nat) (o : Oper), ops[i]? = some o → ∀ e ∈ o.after, Region.binds md e = true → e.on < i) (hr : Region.ready md ops L = []) : ∀ i, i < ops.size → L.getD i false = true := by
  intro i
  induction i using Nat.strongRecOn with
  | ind i ih =>
    intro hi
    cases hL : L.getD i false with
    | true => rfl
    | false =>
      exfalso
      have h1 : L.getD i true = false := by
        simp [Array.getD, hsz, hi] at hL ⊢
        exact hL
      have : i ∈ Region.ready md ops L := mem_ready.2 ⟨h1, ops[i], by simp [hi], fun e he hbd => by
        have := hac i ops[i] (by simp [hi]) e he hbd
        exact ih e.on this (by omega)⟩
      rw [hr] at this
      cases this
theorem wp_region_inv {P : Program} {id : Nat} {ops : Array Oper} {Q : Exit → Act → World → Prop} {a0 : Act} {w0 : World} (hm : P.follows .mixedOrders = true)
    (hac : (List.range ops.size).all (fun i => ((ops[i]?).map (·.after.all fun e => !Region.binds .any e || decide (e.on < i))).getD true) = true)
    (I : Act → (Nat → Bool) → Act → World → Prop) (h0 : I a0 (fun _ => false) a0 w0.drew)
    (hd : ∀ ℓ a w, I a0 ℓ a w → (∀ i, i < ops.size → ℓ i = true) → Q .normal a w)
    (hs : ∀ ℓ a w i o, I a0 ℓ a w → ops[i]? = some o → i < ops.size → ℓ i = false → (∀ e ∈ o.after, Region.binds .any e = true → ℓ e.on = true) →
      ∀ K : Act → World → Prop, Hid (∀ a' w' ℓ', I a0 ℓ' a' w' → ℓ' i = true → (∀ j, j ≠ i → ℓ' j = ℓ j) → K a' w') → if Region.wanted o (yielded ops a.tmps) = true then Oper.wp P o a w K Q else K (a.put o.dst undef) w)
    (hI : ∀ a w ℓ ℓ', (∀ j, ℓ j = ℓ' j) → I a0 ℓ a w → I a0 ℓ' a w) :
    (Code.region id ops true).wp P Q a0 w0 := by
  have hac' : ∀ (i : Nat) (o : Oper), ops[i]? = some o → ∀ e ∈ o.after, Region.binds .any e = true → e.on < i := by
    intro i o ho e he hbd
    have hi : i < ops.size := by
      rcases Nat.lt_or_ge i ops.size with g | g
      · exact g
      · rw [Array.getElem?_eq_none g] at ho; cases ho
    have := List.all_eq_true.1 hac i (List.mem_range.2 hi)
    rw [ho] at this
    simp at this
    obtain ⟨k, hk, rfl⟩ := Array.getElem_of_mem he
    exact (this k hk).resolve_left (by rw [hbd]; decide)
  refine wp_region_any hm ?_
  refine wpAny_inv (I := fun L a w => L.size = ops.size ∧ I a0 (fun j => L.getD j false) a w) ?_ ?_ _ _ _ _ (by unfold left; simp) ⟨by simp, ?_⟩
  · rintro L a w ⟨hsz, h⟩ hr
    exact hd _ a w h (all_listed hsz hac' hr)
  · rintro L a w i ⟨hsz, h⟩ hi
    obtain ⟨h1, o, ho, hdep⟩ := mem_ready.1 hi
    have hlt : i < ops.size := by
      rcases Nat.lt_or_ge i ops.size with g | g
      · exact g
      · rw [Array.getElem?_eq_none g] at ho; cases ho
    refine wpOp_step ho fun K hK => hs (fun j => L.getD j false) a w i o h ho hlt ?_ hdep K (show _ from fun a' w' ℓ' hI' h1' h2' => hK a' w' ⟨by simp [hsz], hI _ _ _ _ (fun j => ?_) hI'⟩)
    · simp [Array.getD, hsz, hlt] at h1 ⊢
      exact h1
    · by_cases hj : j = i
      · subst hj
        rw [h1', getD_set_eq h1]
      · rw [h2' j hj, getD_set_other (fun e => hj e.symm)]
  · refine hI _ _ _ _ (fun j => ?_) h0
    simp [Array.getD]
end Go.Proofs.YtlomcdgfcocmmaaGreatDoor
namespace Go.Proofs.YtlomcdgfcocmmaaGreatDoor
open Go.ChangeShapes Go.WideShapes Go.ChangeAt Go.RowKit Go.Deep
set_option linter.unusedVariables false

/-- The cells from 'o' on hold 'vs'. -/
def CellsAt (w : World) (b o : Nat) (vs : List Value) : Prop := ∀ j v, vs[j]? = some v → w.cell? ⟨b, o + j, none⟩ = some v
theorem CellsAt.below {w w' : World} {b o : Nat} {vs : List Value} (h : CellsAt w b o vs) (hb : Below w.heap.size w w') : CellsAt w' b o vs := fun j v hj =>
  (hb.cell (p := ⟨b, o + j, none⟩) (World.block_lt_of_cell? w _ (h j v hj))).trans (h j v hj)
theorem CellsAt.of {w w' : World} {b o : Nat} {vs : List Value} (h : CellsAt w b o vs) (hc : ∀ i, w'.cell? ⟨b, i, none⟩ = w.cell? ⟨b, i, none⟩) : CellsAt w' b o vs := fun j v hj => (hc _).trans (h j v hj)
def setAll (w : World) (B o : Nat) : List Value → World
  | [] => w
  | v :: vs => setAll (w.setCell ⟨B, o, none⟩ v) B (o + 1) vs
theorem setAll_size (B : Nat) (vs : List Value) : ∀ (w : World) (o : Nat), (setAll w B o vs).heap.size = w.heap.size := by
  induction vs with
  | nil => intro w o; rfl
  | cons v vs ih => intro w o; unfold setAll; rw [ih]; simp
theorem setAll_free (B : Nat) (vs : List Value) : ∀ (w : World) (o : Nat) (p : Addr), (setAll w B o vs).frozen? p = w.frozen? p := by
  induction vs with
  | nil => intro w o p; rfl
  | cons v vs ih => intro w o p; unfold setAll; rw [ih]; simp
theorem setAll_other (B : Nat) (vs : List Value) : ∀ (w : World) (o : Nat) (b i : Nat), (b ≠ B ∨ i < o ∨ o + vs.length ≤ i) → (setAll w B o vs).cell? ⟨b, i, none⟩ = w.cell? ⟨b, i, none⟩ := by
  induction vs with
  | nil => intro w o b i _; rfl
  | cons v vs ih =>
    intro w o b i h
    unfold setAll
    simp only [List.length_cons] at h
    rw [ih _ _ _ _ (by omega), World.cell?_setCell_other _ _ _ _ (by intro c; injection c with c1 c2 c3; omega)]
theorem setAll_cells (B : Nat) (vs : List Value) : ∀ (w : World) (o : Nat), (∀ j, j < vs.length → ∃ u, w.cell? ⟨B, o + j, none⟩ = some u) → CellsAt (setAll w B o vs) B o vs := by
  induction vs with
  | nil => intro w o _ j v hj; simp at hj
  | cons x vs ih =>
    intro w o hr j v hj
    unfold setAll
    match j with
    | 0 =>
      simp only [List.length_cons] at hr
      obtain ⟨u, hu⟩ := hr 0 (by omega)
      rw [setAll_other _ _ _ _ _ _ (.inr (.inl (by omega)))]
      simp at hj
      subst hj
      exact World.cell?_setCell_same _ _ _ hu
    | j + 1 =>
      have := ih (w.setCell ⟨B, o, none⟩ x) (o + 1) (fun i hi => by
        obtain ⟨u, hu⟩ := hr (i + 1) (by simp only [List.length_cons]; omega)
        refine ⟨u, ?_⟩
        rw [World.cell?_setCell_other _ _ _ _ (by intro c; injection c with c1 c2 c3; omega), show o + 1 + i = o + (i + 1) by omega]
        exact hu) j v (by simpa using hj)
      rw [show o + (j + 1) = o + 1 + j by omega]
      exact this
theorem setAll_below {n B : Nat} (hB : n ≤ B) (vs : List Value) : ∀ {w0 w : World} (o : Nat), Below n w0 w → Below n w0 (setAll w B o vs) := by
  induction vs with
  | nil => intro w0 w o h; exact h
  | cons v vs ih => intro w0 w o h; unfold setAll; exact ih _ (h.setCell (p := ⟨B, o, none⟩) hB _)
/-- A list of n structs of k cells each, from an address on: X tells them. -/
def GSeg (k : Nat) (w : World) (a : Option Addr) (n : Nat) (X : Nat → List Value) : Prop :=
  0 < n → ∃ b off, a = some ⟨b, off, none⟩ ∧ b < w.heap.size ∧ ∀ i, i < n → CellsAt w b (off + i * k) (X i)
theorem GSeg.at {k : Nat} {w : World} {a : Option Addr} {n : Nat} {X : Nat → List Value} (h : GSeg k w a n X) (i : Nat) (hi : i < n) : ∃ b off, a = some ⟨b, off, none⟩ ∧ b < w.heap.size ∧ CellsAt w b (off + i * k) (X i) := by
  obtain ⟨b, off, e, hlt, hc⟩ := h (by omega)
  exact ⟨b, off, e, hlt, hc i hi⟩
theorem GSeg.below {k : Nat} {w w' : World} {a : Option Addr} {n : Nat} {X : Nat → List Value} (h : GSeg k w a n X) (hb : Below w.heap.size w w') : GSeg k w' a n X := fun h0 => by
  obtain ⟨b, off, e, hlt, hc⟩ := h h0
  exact ⟨b, off, e, Nat.lt_of_lt_of_le hlt hb.size, fun i hi => (hc i hi).below hb⟩
theorem GSeg.congr {k : Nat} {w : World} {a : Option Addr} {n : Nat} {X Y : Nat → List Value} (h : GSeg k w a n X) (he : ∀ i, i < n → X i = Y i) : GSeg k w a n Y := fun h0 => by
  obtain ⟨b, off, e, hlt, hc⟩ := h h0
  exact ⟨b, off, e, hlt, fun i hi => by rw [← he i hi]; exact hc i hi⟩
/-- A block of n structs of k cells, m of which have been laid. -/
structure GBlk (k : Nat) (w : World) (B n m : Nat) (X : Nat → List Value) : Prop where
  lt : B < w.heap.size
  free : ∀ j, w.frozen? ⟨B, j, none⟩ = false
  room : ∀ i, i < n → ∀ j, j < k → ∃ u, w.cell? ⟨B, i * k + j, none⟩ = some u
  done : ∀ i, i < m → CellsAt w B (i * k) (X i)
theorem GBlk.below {k : Nat} {w w' : World} {B n m : Nat} {X : Nat → List Value} (h : GBlk k w B n m X) (hb : Below w.heap.size w w') : GBlk k w' B n m X :=
  ⟨Nat.lt_of_lt_of_le h.lt hb.size, fun j => (hb.frozen (p := ⟨B, j, none⟩) h.lt).trans (h.free j), fun i hi j hj => by
    obtain ⟨u, hu⟩ := h.room i hi j hj
    exact ⟨u, (hb.cell (p := ⟨B, _, none⟩) h.lt).trans hu⟩, fun i hi => (h.done i hi).below hb⟩
theorem GBlk.seg {k : Nat} {w : World} {B n : Nat} {X : Nat → List Value} (h : GBlk k w B n n X) : GSeg k w (some ⟨B, 0, none⟩) n X := fun _ =>
  ⟨B, 0, rfl, h.lt, fun i hi => by rw [Nat.zero_add]; exact h.done i hi⟩
theorem GBlk.congr {k : Nat} {w : World} {B n m : Nat} {X Y : Nat → List Value} (h : GBlk k w B n m X) (he : ∀ i, i < m → X i = Y i) : GBlk k w B n m Y :=
  ⟨h.lt, h.free, h.room, fun i hi => by rw [← he i hi]; exact h.done i hi⟩
theorem row_apart {k i m j q : Nat} (hi : i < m) (hj : j < k) (hq : m * k ≤ q) : i * k + j < q := by
  have h1 : (i + 1) * k ≤ m * k := Nat.mul_le_mul_right k hi
  rw [Nat.add_mul, Nat.one_mul] at h1
  omega
theorem GBlk.put {k : Nat} {w : World} {B n m : Nat} {X : Nat → List Value} (h : GBlk k w B n m X) (hm : m < n) (vs : List Value) (hv : vs.length = k) (hx : X m = vs) (hk : ∀ i, i < m → (X i).length = k) : GBlk k (setAll w B (m * k) vs) B n (m + 1) X := by
  have hroom : ∀ j, j < vs.length → ∃ u, w.cell? ⟨B, m * k + j, none⟩ = some u := fun j hj => h.room m hm j (by omega)
  have hset := setAll_cells B vs w (m * k) hroom
  refine ⟨by rw [setAll_size]; exact h.lt, fun j => by rw [setAll_free]; exact h.free j, fun i hi j hj => ?_, fun i hi => ?_⟩
  · by_cases e : m * k ≤ i * k + j ∧ i * k + j < m * k + vs.length
    · obtain ⟨q, hq⟩ : ∃ q, i * k + j = m * k + q := ⟨i * k + j - m * k, by omega⟩
      have hq2 : q < vs.length := by omega
      exact ⟨_, by rw [hq]; exact hset q _ (List.getElem?_eq_getElem hq2)⟩
    · rw [setAll_other _ _ _ _ _ _ (.inr (by omega))]
      exact h.room i hi j hj
  · by_cases e : i = m
    · subst e
      rw [hx]
      exact hset
    · intro j v hj
      have hjk : j < k := by
        have := (List.getElem?_eq_some_iff.1 hj).1
        rw [hk i (by omega)] at this
        exact this
      rw [setAll_other _ _ _ _ _ _ (.inr (.inl (row_apart (by omega) hjk (Nat.le_refl _))))]
      exact h.done i (by omega) j v hj
theorem GBlk.made (k : Nat) (w : World) (n : Nat) (T : TypeId) (z : Array Value) (X : Nat → List Value) (hz : z.size = k) : GBlk k (w.alloc (.cells (madeCells z (n * k)) T)) w.heap.size n 0 X := by
  refine ⟨by simp, fun j => by simp, fun i hi j hj => ?_, fun i hi => absurd hi (by omega)⟩
  have h1 : i * k + j < n * k := row_apart hi hj (Nat.le_refl _)
  have hu : ∃ u, (madeCells z (n * k))[i * k + j]? = some u := by
    simp only [madeCells]
    simp [h1]
  obtain ⟨u, hu⟩ := hu
  exact ⟨u, new_cell w _ T _ _ hu⟩
/-- A struct of its own block, whatever its type. -/
theorem CellsAt.new (w : World) (cs : List Value) (T : TypeId) (B : Nat) (hB : B = w.heap.size) : CellsAt (w.alloc (.cells cs.toArray T)) B 0 cs := by
  subst hB
  intro j v hj
  rw [Nat.zero_add]
  exact new_cell w _ T j v (by simpa using hj)
theorem CellsAt.alloc {w : World} {b o : Nat} {vs : List Value} (h : CellsAt w b o vs) (ob : Obj) : CellsAt (w.alloc ob) b o vs := h.below ((Below.refl _ _).alloc (Nat.le_refl _) _)
/-- A list of structs that lies in a block from 'lo' on. -/
def GSegL (k lo : Nat) (w : World) (a : Option Addr) (n : Nat) (X : Nat → List Value) : Prop :=
  0 < n → ∃ b off, a = some ⟨b, off, none⟩ ∧ lo ≤ b ∧ b < w.heap.size ∧ (∀ i, i < n → CellsAt w b (off + i * k) (X i)) ∧ (0 < lo → ∀ j, w.frozen? ⟨b, j, none⟩ = false)
theorem GSegL.seg {k lo : Nat} {w : World} {a : Option Addr} {n : Nat} {X : Nat → List Value} (h : GSegL k lo w a n X) : GSeg k w a n X := fun h0 => by
  obtain ⟨b, off, e, _, hlt, hc, _⟩ := h h0
  exact ⟨b, off, e, hlt, hc⟩
theorem GSeg.low {k : Nat} {w : World} {a : Option Addr} {n : Nat} {X : Nat → List Value} (h : GSeg k w a n X) : GSegL k 0 w a n X := fun h0 => by
  obtain ⟨b, off, e, hlt, hc⟩ := h h0
  exact ⟨b, off, e, Nat.zero_le _, hlt, hc, fun g => absurd g (Nat.lt_irrefl _)⟩
theorem GSegL.below {k lo : Nat} {w w' : World} {a : Option Addr} {n : Nat} {X : Nat → List Value} (h : GSegL k lo w a n X) (hb : Below w.heap.size w w') : GSegL k lo w' a n X := fun h0 => by
  obtain ⟨b, off, e, h1, hlt, hc, hf⟩ := h h0
  exact ⟨b, off, e, h1, Nat.lt_of_lt_of_le hlt hb.size, fun i hi => (hc i hi).below hb, fun g j => (hb.frozen (p := ⟨b, j, none⟩) hlt).trans (hf g j)⟩
theorem GSegL.wide {k lo lo' : Nat} {w : World} {a : Option Addr} {n : Nat} {X : Nat → List Value} (h : GSegL k lo w a n X) (hl : lo' ≤ lo) : GSegL k lo' w a n X := fun h0 => by
  obtain ⟨b, off, e, h1, hlt, hc, hf⟩ := h h0
  exact ⟨b, off, e, Nat.le_trans hl h1, hlt, hc, fun g => hf (Nat.lt_of_lt_of_le g hl)⟩
theorem CellsAt.other {w : World} {b o B j : Nat} {vs : List Value} {v : Value} (h : CellsAt w b o vs) (hn : B ≠ b) : CellsAt (w.setCell ⟨B, j, none⟩ v) b o vs := fun i u hi => by
  rw [World.cell?_setCell_other _ _ _ _ (by intro c; injection c with c1 c2 c3; exact hn c1)]
  exact h i u hi
theorem GSegL.other {k lo B j : Nat} {w : World} {v : Value} {a : Option Addr} {n : Nat} {X : Nat → List Value} (h : GSegL k lo w a n X) (hB : B < lo) : GSegL k lo (w.setCell ⟨B, j, none⟩ v) a n X := fun h0 => by
  obtain ⟨b, off, e, h1, hlt, hc, hf⟩ := h h0
  exact ⟨b, off, e, h1, by simpa using hlt, fun i hi => (hc i hi).other (by omega), fun g j => by simpa using hf g j⟩
theorem GBlk.segL {k : Nat} {w : World} {B n : Nat} {X : Nat → List Value} (h : GBlk k w B n n X) (lo : Nat) (hl : lo ≤ B) : GSegL k lo w (some ⟨B, 0, none⟩) n X := fun _ =>
  ⟨B, 0, rfl, hl, h.lt, fun i hi => by rw [Nat.zero_add]; exact h.done i hi, fun _ j => h.free j⟩
theorem GSegL.setAll {k lo B o : Nat} {w : World} {a : Option Addr} {n : Nat} {X : Nat → List Value} (vs : List Value) (h : GSegL k lo w a n X) (hB : B < lo) : GSegL k lo (setAll w B o vs) a n X := fun h0 => by
  obtain ⟨b, off, e, h1, hlt, hc, hf⟩ := h h0
  refine ⟨b, off, e, h1, by rw [setAll_size]; exact hlt, fun i hi j v hj => ?_, fun g j => by rw [setAll_free]; exact hf g j⟩
  rw [setAll_other _ _ _ _ _ _ (.inl (by omega))]
  exact hc i hi j v hj
end Go.Proofs.YtlomcdgfcocmmaaGreatDoor
