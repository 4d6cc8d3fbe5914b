
/-
  Tables whose lists are owned and lie apart: what a cell laid into one of them makes of them. No conditions but those that each fact names.
-/
import Derived.Test.YtlomcdgfcocmmaaGreatDoorBas
import Derived.Test.YtlomcdgfcocmmaaGreatDoorDtc
namespace Go.Proofs.YtlomcdgfcocmmaaGreatDoor
open Go.ChangeShapes Go.WideShapes Go.ChangeAt Go.RowKit Go.Deep Go.Joins
set_option linter.unusedVariables false

/-- The blocks in which the lists lie. -/
def InL (ad : Ad) (k : Nat) : Prop :=
  (Value.slice ad.pa ad.pn ad.pc).ownBlock = some k ∨ (Value.slice ad.da ad.dn ad.dc).ownBlock = some k ∨ (Value.slice ad.ca ad.cn ad.cc).ownBlock = some k ∨ (Value.slice ad.sa ad.sn ad.sc).ownBlock = some k ∨ ∃ i off, i < ad.pn ∧ 0 < (ad.Y i).wn ∧ (ad.Y i).wa = some ⟨k, off, none⟩
/-- Tables whose lists are owned and lie apart from each other; lists of windows that hold nothing lie anywhere. -/
structure OU (lo : Nat) (W : World) (t : Tb) (ad : Ad) : Prop where
  pp : W.ownsRow lo 72 5 (.slice ad.pa ad.pn ad.pc) ad.pn (flr ad.pn (fun i => rwL (ad.Y i)))
  pd : W.ownsRow lo 3 1 (.slice ad.da ad.dn ad.dc) ad.dn (flr ad.dn (inX t.ds))
  pc : W.ownsRow lo 76 4 (.slice ad.ca ad.cn ad.cc) ad.cn (flr ad.cn (chX t.cs))
  ps : W.ownsRow lo 42 3 (.slice ad.sa ad.sn ad.sc) ad.sn (flr ad.sn (slX t.ss))
  pw : ∀ i, i < ad.pn → Good lo W (ad.Y i) (t.ps.getD i pt0)
  ap : ∀ i, i < ad.pn → 0 < (ad.Y i).wn → ∀ b off, (ad.Y i).wa = some ⟨b, off, none⟩ → (Value.slice ad.pa ad.pn ad.pc).ownBlock ≠ some b
  two : ∀ i k, i < ad.pn → k < ad.pn → i ≠ k → 0 < (ad.Y i).wn → 0 < (ad.Y k).wn → ∀ b off b' off', (ad.Y i).wa = some ⟨b, off, none⟩ → (ad.Y k).wa = some ⟨b', off', none⟩ → b ≠ b'
  xd : Ap (.slice ad.pa ad.pn ad.pc) ad.Y ad.pn (.slice ad.da ad.dn ad.dc)
  xc : Ap (.slice ad.pa ad.pn ad.pc) ad.Y ad.pn (.slice ad.ca ad.cn ad.cc)
  xs : Ap (.slice ad.pa ad.pn ad.pc) ad.Y ad.pn (.slice ad.sa ad.sn ad.sc)
  ydc : ∀ g, (Value.slice ad.da ad.dn ad.dc).ownBlock = some g → (Value.slice ad.ca ad.cn ad.cc).ownBlock ≠ some g
  yds : ∀ g, (Value.slice ad.da ad.dn ad.dc).ownBlock = some g → (Value.slice ad.sa ad.sn ad.sc).ownBlock ≠ some g
  ycs : ∀ g, (Value.slice ad.ca ad.cn ad.cc).ownBlock = some g → (Value.slice ad.sa ad.sn ad.sc).ownBlock ≠ some g
theorem OT.ou {lo : Nat} {W : World} {t : Tb} {ad : Ad} (h : OT lo W t ad) : OU lo W t ad :=
  ⟨h.pp, h.pd, h.pc, h.ps, h.pw, fun i hi _ => h.ap i hi, fun i k hi hk hn _ _ => h.two i k hi hk hn, h.xd, h.xc, h.xs, h.ydc, h.yds, h.ycs⟩
theorem OU.low {lo lo' : Nat} {W : World} {t : Tb} {ad : Ad} (h : OU lo W t ad) (hl : lo' ≤ lo) : OU lo' W t ad :=
  ⟨owns_low h.pp hl, owns_low h.pd hl, owns_low h.pc hl, owns_low h.ps hl, fun i hi => (h.pw i hi).wide hl, h.ap, h.two, h.xd, h.xc, h.xs, h.ydc, h.yds, h.ycs⟩
theorem OU.inl {lo : Nat} {W : World} {t : Tb} {ad : Ad} (h : OU lo W t ad) {k : Nat} (hk : InL ad k) : lo ≤ k ∧ k < W.heap.size := by
  rcases hk with e | e | e | e | ⟨i, off, hi, h0, e⟩
  · exact h.pp.lt k e
  · exact h.pd.lt k e
  · exact h.pc.lt k e
  · exact h.ps.lt k e
  · obtain ⟨c, o, e', h1, h2, _⟩ := (h.pw i hi).sg h0
    rw [e] at e'
    cases e'
    exact ⟨h1, h2⟩
theorem GSegL.at_block {k lo : Nat} {w w' : World} {a : Option Addr} {n : Nat} {X : Nat → List Value} (h : GSegL k lo w a n X) (hz : w.heap.size ≤ w'.heap.size) (hb : ∀ b off, a = some ⟨b, off, none⟩ → 0 < n → w'.heap[b]? = w.heap[b]?) : GSegL k lo w' a n X := fun h0 => by
  obtain ⟨c, off, e, h1, hlt, hc, hf⟩ := h h0
  have hk := hb c off e h0
  exact ⟨c, off, e, h1, Nat.lt_of_lt_of_le hlt hz, fun i hi => (hc i hi).of (fun j => World.cell?_of_block (w := w) hk), fun q j => (World.frozen?_of_block (w := w) hk).trans (hf q j)⟩
theorem Good.at_block {lo : Nat} {w w' : World} {y : Rw} {p : Pt} (g : Good lo w y p) (hz : w.heap.size ≤ w'.heap.size) (hb : ∀ b off, y.wa = some ⟨b, off, none⟩ → 0 < y.wn → w'.heap[b]? = w.heap[b]?) : Good lo w' y p :=
  ⟨g.nm, g.en, g.kd, g.ms, g.ln, g.cp, g.sg.at_block hz hb⟩
theorem OU.keep {lo : Nat} {W X : World} {t : Tb} {ad : Ad} (h : OU lo W t ad) (hz : W.heap.size ≤ X.heap.size) (hb : ∀ k, InL ad k → X.heap[k]? = W.heap[k]?) : OU lo X t ad :=
  ⟨owns_block h.pp fun g hg => hb g (.inl hg), owns_block h.pd fun g hg => hb g (.inr (.inl hg)), owns_block h.pc fun g hg => hb g (.inr (.inr (.inl hg))), owns_block h.ps fun g hg => hb g (.inr (.inr (.inr (.inl hg)))),
    fun i hi => (h.pw i hi).at_block hz (fun b off e h0 => hb b (.inr (.inr (.inr (.inr ⟨i, off, hi, h0, e⟩))))), h.ap, h.two, h.xd, h.xc, h.xs, h.ydc, h.yds, h.ycs⟩
theorem OU.tm {lo : Nat} {W : World} {t : Tb} {ad : Ad} (h : OU lo W t ad) : TM 0 W t ad := by
  have sg : ∀ {e : TypeId} {k n : Nat} {a : Option Addr} {c : Nat} {X : Nat → List Value}, (∀ i, i < n → (X i).length = k) → W.ownsRow lo e k (.slice a n c) n (flr n X) → GSegL k 0 W a n X := fun hX q => by
    obtain ⟨a', c', e, _, h3⟩ := owns_seg q hX
    cases e
    exact h3.wide (Nat.zero_le _)
  exact ⟨⟨sg (fun _ _ => rfl) h.pp, fun i hi => (h.pw i hi).wide (Nat.zero_le _), fun h => absurd h (Nat.lt_irrefl _)⟩, sg (fun _ _ => rfl) h.pd, sg (fun _ _ => rfl) h.pc, sg (fun _ _ => rfl) h.ps⟩
/-- Other numbers. -/
theorem OU.nums {lo : Nat} {W : World} {t t' : Tb} {ad : Ad} (h : OU lo W t ad) (h1 : t'.ps = t.ps) (h2 : t'.ds = t.ds) (h3 : t'.cs = t.cs) (h4 : t'.ss = t.ss) : OU lo W t' ad :=
  ⟨h.pp, by rw [h2]; exact h.pd, by rw [h3]; exact h.pc, by rw [h4]; exact h.ps, by rw [h1]; exact h.pw, h.ap, h.two, h.xd, h.xc, h.xs, h.ydc, h.yds, h.ycs⟩
theorem flr_set {k n : Nat} {X : Nat → List Value} (hX : ∀ i, i < n → (X i).length = k) (i j : Nat) (hi : i < n) (hj : j < k) (v : Value) : (flr n X).set (i * k + j) v = flr n (fun m => if m = i then (X i).set j v else X m) := by
  have hX' : ∀ m, m < n → ((fun m => if m = i then (X i).set j v else X m) m).length = k := fun m hm => by
    show (if m = i then _ else _ : List Value).length = k
    split
    · rw [List.length_set]; exact hX i hi
    · exact hX m hm
  have l1 := flr_len hX
  have l2 := flr_len hX'
  refine List.ext_getElem? fun q => ?_
  by_cases hq : q < n * k
  · have hk0 : 0 < k := by omega
    have hd : q / k * k + q % k = q := by rw [Nat.mul_comm]; exact Nat.div_add_mod q k
    have hm : q % k < k := Nat.mod_lt _ hk0
    have hdn : q / k < n := Nat.div_lt_of_lt_mul (by rw [Nat.mul_comm]; exact hq)
    rw [List.getElem?_set]
    by_cases e : i * k + j = q
    · rw [if_pos e, if_pos (by rw [l1, e]; exact hq)]
      rw [← e, flr_at hX' i j hi hj]
      simp only [if_true]
      rw [List.getElem?_set, if_pos rfl, if_pos (by rw [hX i hi]; exact hj)]
    · rw [if_neg e, ← hd, flr_at hX _ _ hdn hm, flr_at hX' _ _ hdn hm]
      by_cases e2 : q / k = i
      · simp only [if_pos e2]
        rw [List.getElem?_set, if_neg (fun h => e (by rw [← hd, ← e2, ← h])), e2]
      · simp only [if_neg e2]
  · rw [List.getElem?_eq_none (by rw [List.length_set, l1]; omega), List.getElem?_eq_none (by rw [l2]; omega)]
/-- A cell laid into a list that is owned. -/
theorem owns_set {W : World} {lo k n c : Nat} {e : TypeId} {a : Option Addr} {X : Nat → List Value} (h : W.ownsRow lo e k (.slice a n c) n (flr n X)) (hX : ∀ i, i < n → (X i).length = k) (i j : Nat) (hi : i < n) (hj : j < k) (v : Value) :
    ∃ g, a = some ⟨g, 0, none⟩ ∧ lo ≤ g ∧ g < W.heap.size ∧ (∀ o, W.frozen? ⟨g, o, none⟩ = false) ∧ (∀ u, (X i)[j]? = some u → W.cell? ⟨g, i * k + j, none⟩ = some u) ∧ (W.setCell ⟨g, i * k + j, none⟩ v).ownsRow lo e k (.slice a n c) n (flr n (fun m => if m = i then (X i).set j v else X m)) := by
  rcases h.2 with ⟨_, h0⟩ | ⟨g, cap, cur, e1, hb, hg, hn, hcm, hs, ht⟩
  · omega
  · injection e1 with e1 e2 e3
    subst e1 e3
    have hik : i * k + j < n * k := by
      have h1 : (i + 1) * k ≤ n * k := Nat.mul_le_mul_right k hi
      rw [Nat.add_mul, Nat.one_mul] at h1
      omega
    have hcs : n * k ≤ c * k := Nat.mul_le_mul_right k hn
    refine ⟨g, rfl, hb, (Array.getElem?_eq_some_iff.1 hg).1, fun o => by simp [World.frozen?, hg], fun u hu => ?_, ?_, .inr ⟨g, c, cur.setIfInBounds (i * k + j) v, rfl, hb, ?_, hn, hcm, by simp [hs], ?_⟩⟩
    · have h8 := flr_at hX i j hi hj
      rw [hu, ← ht, List.getElem?_take, if_pos hik] at h8
      have h9 : cur[i * k + j]? = some u := by rw [← h8]; simp
      simp [World.cell?, hg, h9]
    · rw [← flr_set hX i j hi hj v, List.length_set]
      exact h.1
    · rw [setCell_eq_setRow W g (i * k + j) cur e (0, 0) v hg, setRow_heap W g _ _ e (0, 0) hg]
    · rw [Array.toList_setIfInBounds, List.take_set, ht, flr_set hX i j hi hj v]
/-- A cell laid into a list of windows. -/
theorem wins_set {W : World} {lo n : Nat} {a : Option Addr} {ws : List wiT} (h : GSegL 3 lo W a n (wiX ws)) (hlo : 0 < lo) (hl : ws.length = n) (i j : Nat) (hi : i < n) (hj : j < 3) (v : Value) (x' : wiT) (hx : wiL x' = (wiL (ws.getD i wi0)).set j v) :
    ∃ b off, a = some ⟨b, off, none⟩ ∧ lo ≤ b ∧ b < W.heap.size ∧ (∀ o, W.frozen? ⟨b, o, none⟩ = false) ∧ CellsAt W b (off + i * 3) (wiL (ws.getD i wi0)) ∧ GSegL 3 lo (W.setCell ⟨b, off + i * 3 + j, none⟩ v) a n (wiX (ws.set i x')) := by
  obtain ⟨b, off, e, h1, hlt, hc, hf⟩ := h (by omega)
  refine ⟨b, off, e, h1, hlt, hf hlo, hc i hi, fun _ => ⟨b, off, e, h1, by simpa using hlt, fun m hm q u hu => ?_, fun _ o => by simpa using hf hlo o⟩⟩
  have hq : q < 3 := (List.getElem?_eq_some_iff.1 hu).1
  have hcm := hc m hm q
  by_cases em : m = i
  · subst em
    have eX : wiX (ws.set m x') m = (wiL (ws.getD m wi0)).set j v := by
      show wiL ((ws.set m x').getD m wi0) = _
      rw [← hx, List.getD_eq_getElem?_getD, List.getElem?_set, if_pos rfl, if_pos (by omega)]
      rfl
    rw [eX, List.getElem?_set] at hu
    by_cases eq : j = q
    · subst eq
      rw [if_pos rfl] at hu
      split at hu
      · injection hu with hu
        subst hu
        have hcell : ∃ u0, W.cell? ⟨b, off + m * 3 + j, none⟩ = some u0 := by
          have hq3 : j < (wiX ws m).length := hq
          exact ⟨_, hcm _ (List.getElem?_eq_getElem hq3)⟩
        obtain ⟨u0, hu0⟩ := hcell
        exact World.cell?_setCell_same W ⟨b, off + m * 3 + j, none⟩ v hu0
      · cases hu
    · rw [if_neg eq] at hu
      exact sto (by omega) (hcm u hu)
  · have eX : wiX (ws.set i x') m = wiX ws m := by
      show wiL ((ws.set i x').getD m wi0) = wiL (ws.getD m wi0)
      rw [List.getD_eq_getElem?_getD, List.getElem?_set, if_neg (fun h => em h.symm), ← List.getD_eq_getElem?_getD]
    rw [eX] at hu
    exact sto (by omega) (hcm u hu)
theorem heap_far (W : World) (g o : Nat) (v : Value) {k : Nat} (h : k ≠ g) : (W.setCell ⟨g, o, none⟩ v).heap[k]? = W.heap[k]? := Below.heap_setCell W ⟨g, o, none⟩ v k h
/-- A cell laid into the rows of partitions. -/
theorem OU.set_p {lo : Nat} {W : World} {t : Tb} {ad : Ad} (h : OU lo W t ad) (hl : t.ps.length = ad.pn) (i j : Nat) (hi : i < ad.pn) (hj : j < 5) (v : Value) (y' : Rw) (p' : Pt) (hy : rwL y' = (rwL (ad.Y i)).set j v) (hp : y'.nm = p'.nm ∧ y'.en = p'.en ∧ y'.kd = p'.kd ∧ y'.ms = p'.ms ∧ p'.ws.length = y'.wn ∧ y'.wn ≤ y'.wc) (hw : (y'.wa = (ad.Y i).wa ∧ y'.wn = (ad.Y i).wn ∧ p'.ws = (t.ps.getD i pt0).ws) ∨ y'.wn = 0) :
    ∃ g, ad.pa = some ⟨g, 0, none⟩ ∧ lo ≤ g ∧ g < W.heap.size ∧ (∀ o, W.frozen? ⟨g, o, none⟩ = false) ∧ (∀ u, (rwL (ad.Y i))[j]? = some u → W.cell? ⟨g, i * 5 + j, none⟩ = some u) ∧ InL ad g ∧
      OU lo (W.setCell ⟨g, i * 5 + j, none⟩ v) { t with ps := t.ps.set i p' } { ad with Y := fun m => if m = i then y' else ad.Y m } := by
  obtain ⟨g, e, h1, h2, h3, h4, h5⟩ := owns_set h.pp (fun _ _ => rfl) i j hi hj v
  have ho : (Value.slice ad.pa ad.pn ad.pc).ownBlock = some g := by rw [e]; rfl
  have hz : W.heap.size ≤ (W.setCell ⟨g, i * 5 + j, none⟩ v).heap.size := by simp
  have hY : ∀ m, ((fun m => if m = i then y' else ad.Y m) m : Rw).wn ≤ (ad.Y m).wn ∧ (0 < ((fun m => if m = i then y' else ad.Y m) m : Rw).wn → ((fun m => if m = i then y' else ad.Y m) m : Rw).wa = (ad.Y m).wa ∧ 0 < (ad.Y m).wn) := fun m => by
    show (if m = i then y' else ad.Y m).wn ≤ _ ∧ (0 < (if m = i then y' else ad.Y m).wn → (if m = i then y' else ad.Y m).wa = _ ∧ _)
    by_cases em : m = i
    · subst em
      rw [if_pos rfl]
      rcases hw with ⟨e1, e2, _⟩ | e0
      · rw [e1, e2]; exact ⟨Nat.le_refl _, fun q => ⟨rfl, q⟩⟩
      · rw [e0]; exact ⟨Nat.zero_le _, fun q => absurd q (Nat.lt_irrefl 0)⟩
    · rw [if_neg em]
      exact ⟨Nat.le_refl _, fun q => ⟨rfl, q⟩⟩
  have hap : ∀ v', Ap (.slice ad.pa ad.pn ad.pc) ad.Y ad.pn v' → Ap (.slice ad.pa ad.pn ad.pc) (fun m => if m = i then y' else ad.Y m) ad.pn v' := fun v' q g' e' => ⟨(q g' e').1, fun m hm h0 b off e1 => by
    obtain ⟨q1, q2⟩ := (hY m).2 h0
    rw [q1] at e1
    exact (q g' e').2 m hm q2 b off e1⟩
  have hne : ∀ {v' : Value}, Ap (.slice ad.pa ad.pn ad.pc) ad.Y ad.pn v' → ∀ g', v'.ownBlock = some g' → g' ≠ g := fun q g' e' e2 => (q g' e').1 (by rw [e2]; exact ho)
  refine ⟨g, e, h1, h2, h3, h4, .inl ho, ?_, ?_, ?_, ?_, fun m hm => ?_, fun m hm h0 b off e1 => ?_, fun m k hm hk hn h0 h0' b off b' off' e1 e2 => ?_, hap _ h.xd, hap _ h.xc, hap _ h.xs, h.ydc, h.yds, h.ycs⟩
  · have : (fun m => if m = i then (rwL (ad.Y i)).set j v else rwL (ad.Y m)) = fun m => rwL (if m = i then y' else ad.Y m) := funext fun m => by
      by_cases em : m = i
      · rw [if_pos em, if_pos em, hy]
      · rw [if_neg em, if_neg em]
    rw [this] at h5
    exact h5
  · exact owns_block h.pd fun k hk => heap_far _ _ _ _ (hne h.xd k hk)
  · exact owns_block h.pc fun k hk => heap_far _ _ _ _ (hne h.xc k hk)
  · exact owns_block h.ps fun k hk => heap_far _ _ _ _ (hne h.xs k hk)
  · show Good lo _ (if m = i then y' else ad.Y m) ((t.ps.set i p').getD m pt0)
    have hg := h.pw m hm
    have far : ∀ b off, (ad.Y m).wa = some ⟨b, off, none⟩ → 0 < (ad.Y m).wn → (W.setCell ⟨g, i * 5 + j, none⟩ v).heap[b]? = W.heap[b]? := fun b off e1 h0 => heap_far _ _ _ _ (fun e2 => h.ap m hm h0 b off e1 (by rw [e2]; exact ho))
    by_cases em : m = i
    · subst em
      rw [if_pos rfl, List.getD_eq_getElem?_getD, List.getElem?_set, if_pos rfl, if_pos (by omega)]
      refine ⟨hp.1, hp.2.1, hp.2.2.1, hp.2.2.2.1, hp.2.2.2.2.1, hp.2.2.2.2.2, ?_⟩
      rcases hw with ⟨e1, e2, e3⟩ | e0
      · show GSegL 3 lo _ y'.wa y'.wn (wiX p'.ws)
        rw [e1, e2, e3]
        exact hg.sg.at_block hz far
      · intro q
        rw [e0] at q
        exact absurd q (Nat.lt_irrefl 0)
    · rw [if_neg em, List.getD_eq_getElem?_getD, List.getElem?_set, if_neg (fun e2 => em e2.symm), ← List.getD_eq_getElem?_getD]
      exact hg.at_block hz far
  · obtain ⟨q1, q2⟩ := (hY m).2 h0
    rw [q1] at e1
    exact h.ap m hm q2 b off e1
  · obtain ⟨q1, q2⟩ := (hY m).2 h0
    obtain ⟨q3, q4⟩ := (hY k).2 h0'
    rw [q1] at e1
    rw [q3] at e2
    exact h.two m k hm hk hn q2 q4 b off b' off' e1 e2
/-- A cell laid into a partition's windows. -/
theorem OU.set_w {lo : Nat} {W : World} {t : Tb} {ad : Ad} (h : OU lo W t ad) (hlo : 0 < lo) (hl : t.ps.length = ad.pn) (i k j : Nat) (hi : i < ad.pn) (hk : k < (ad.Y i).wn) (hj : j < 3) (v : Value) (x' : wiT) (hx : wiL x' = (wiL ((t.ps.getD i pt0).ws.getD k wi0)).set j v) :
    ∃ b off, (ad.Y i).wa = some ⟨b, off, none⟩ ∧ lo ≤ b ∧ b < W.heap.size ∧ (∀ o, W.frozen? ⟨b, o, none⟩ = false) ∧ CellsAt W b (off + k * 3) (wiL ((t.ps.getD i pt0).ws.getD k wi0)) ∧ InL ad b ∧
      OU lo (W.setCell ⟨b, off + k * 3 + j, none⟩ v) { t with ps := t.ps.set i { t.ps.getD i pt0 with ws := (t.ps.getD i pt0).ws.set k x' } } ad := by
  have hg := h.pw i hi
  obtain ⟨b, off, e, h1, h2, h3, h4, h5⟩ := wins_set hg.sg hlo hg.ln k j hk hj v x' hx
  have h0 : 0 < (ad.Y i).wn := by omega
  have hz : W.heap.size ≤ (W.setCell ⟨b, off + k * 3 + j, none⟩ v).heap.size := by simp
  have hne : ∀ {v' : Value}, Ap (.slice ad.pa ad.pn ad.pc) ad.Y ad.pn v' → ∀ g', v'.ownBlock = some g' → g' ≠ b := fun q g' e' e2 => (q g' e').2 i hi h0 b off e e2.symm
  refine ⟨b, off, e, h1, h2, h3, h4, .inr (.inr (.inr (.inr ⟨i, off, hi, h0, e⟩))), ?_, ?_, ?_, ?_, fun m hm => ?_, h.ap, h.two, h.xd, h.xc, h.xs, h.ydc, h.yds, h.ycs⟩
  · exact owns_block h.pp fun q hq => heap_far _ _ _ _ (fun e2 => h.ap i hi h0 b off e (by rw [← e2]; exact hq))
  · exact owns_block h.pd fun q hq => heap_far _ _ _ _ (hne h.xd q hq)
  · exact owns_block h.pc fun q hq => heap_far _ _ _ _ (hne h.xc q hq)
  · exact owns_block h.ps fun q hq => heap_far _ _ _ _ (hne h.xs q hq)
  · show Good lo _ (ad.Y m) ((t.ps.set i _).getD m pt0)
    by_cases em : m = i
    · subst em
      rw [List.getD_eq_getElem?_getD, List.getElem?_set, if_pos rfl, if_pos (by omega)]
      exact ⟨hg.nm, hg.en, hg.kd, hg.ms, (List.length_set ..).trans hg.ln, hg.cp, h5⟩
    · rw [List.getD_eq_getElem?_getD, List.getElem?_set, if_neg (fun e2 => em e2.symm), ← List.getD_eq_getElem?_getD]
      exact (h.pw m hm).at_block hz (fun b' off' e1 q => heap_far _ _ _ _ (h.two m i hm hi em q h0 b' off' b off e1 e))
/-- A cell laid into the slots. -/
theorem OU.set_s {lo : Nat} {W : World} {t : Tb} {ad : Ad} (h : OU lo W t ad) (hl : t.ss.length = ad.sn) (i j : Nat) (hi : i < ad.sn) (hj : j < 3) (v : Value) (x' : slT) (hx : slL x' = (slL (t.ss.getD i sl0)).set j v) :
    ∃ g, ad.sa = some ⟨g, 0, none⟩ ∧ lo ≤ g ∧ g < W.heap.size ∧ (∀ o, W.frozen? ⟨g, o, none⟩ = false) ∧ (∀ q u, (slL (t.ss.getD i sl0))[q]? = some u → W.cell? ⟨g, i * 3 + q, none⟩ = some u) ∧ InL ad g ∧
      OU lo (W.setCell ⟨g, i * 3 + j, none⟩ v) { t with ss := t.ss.set i x' } ad := by
  obtain ⟨g, e, h1, h2, h3, _, h5⟩ := owns_set h.ps (fun _ _ => rfl) i j hi hj v
  have hcell : ∀ q u, (slL (t.ss.getD i sl0))[q]? = some u → W.cell? ⟨g, i * 3 + q, none⟩ = some u := fun q u hu => by
    have hq : q < 3 := (List.getElem?_eq_some_iff.1 hu).1
    obtain ⟨g', e', _, _, _, h4', _⟩ := owns_set h.ps (fun _ _ => rfl) i q hi hq v
    rw [e] at e'
    cases e'
    exact h4' u hu
  have ho : (Value.slice ad.sa ad.sn ad.sc).ownBlock = some g := by rw [e]; rfl
  have hz : W.heap.size ≤ (W.setCell ⟨g, i * 3 + j, none⟩ v).heap.size := by simp
  refine ⟨g, e, h1, h2, h3, hcell, .inr (.inr (.inr (.inl ho))), ?_, ?_, ?_, ?_, fun m hm => ?_, h.ap, h.two, h.xd, h.xc, h.xs, h.ydc, h.yds, h.ycs⟩
  · exact owns_block h.pp fun q hq => heap_far _ _ _ _ (fun e2 => (h.xs g ho).1 (by rw [← e2]; exact hq))
  · exact owns_block h.pd fun q hq => heap_far _ _ _ _ (fun e2 => h.yds q hq (by rw [e2]; exact ho))
  · exact owns_block h.pc fun q hq => heap_far _ _ _ _ (fun e2 => h.ycs q hq (by rw [e2]; exact ho))
  · have : (fun m => if m = i then (slX t.ss i).set j v else slX t.ss m) = slX (t.ss.set i x') := funext fun m => by
      show (if m = i then (slL (t.ss.getD i sl0)).set j v else slL (t.ss.getD m sl0)) = slL ((t.ss.set i x').getD m sl0)
      by_cases em : m = i
      · subst em
        rw [if_pos rfl, ← hx, List.getD_eq_getElem?_getD (l := t.ss.set m x'), List.getElem?_set, if_pos rfl, if_pos (by omega)]
        rfl
      · rw [if_neg em, List.getD_eq_getElem?_getD (l := t.ss.set i x'), List.getElem?_set, if_neg (fun e2 => em e2.symm), ← List.getD_eq_getElem?_getD]
    rw [this] at h5
    exact h5
  · exact (h.pw m hm).at_block hz (fun b off e1 q => heap_far _ _ _ _ (fun e2 => (h.xs g ho).2 m hm q b off e1 e2))
end Go.Proofs.YtlomcdgfcocmmaaGreatDoor
