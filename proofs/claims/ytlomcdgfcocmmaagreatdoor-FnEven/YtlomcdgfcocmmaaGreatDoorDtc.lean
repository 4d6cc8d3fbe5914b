
/-
  Slots as they are drawn: what lies in memory on the way, and the tables in the end. Conditions: the cursor stands over bytes.
-/
import Derived.Test.YtlomcdgfcocmmaaGreatDoorBas
import Derived.Test.YtlomcdgfcocmmaaGreatDoorDta
namespace Go.Proofs.YtlomcdgfcocmmaaGreatDoor
open Go.ChangeShapes Go.WideShapes Go.ChangeAt Go.RowKit Go.Deep Go.Joins
set_option linter.unusedVariables false

def slQ (cs : List Value) : Prop := ∃ p s l : Int, cs = [.int .i64 p, .int .i64 s, .int .i64 l]
/-- The slots follow one another, up to 'st'. -/
def SC (N : Nat) (pg : Int) (es : List (List Value)) (st : Int) : Prop :=
  ∃ S : Nat → Int, (S 0 = 0 ∨ S 0 = 5) ∧ S es.length = st ∧ ∀ i, i < es.length → ∃ p x g : Int, es.getD i [] = [.int .i64 p, .int .i64 (S i), .int .i64 (pg + 1 + x)] ∧ (0 ≤ p ∧ p < (N : Int)) ∧ (0 ≤ x ∧ x < 90) ∧ (g = 0 ∨ g = 3) ∧ S (i + 1) = S i + (pg + 1 + x) + g
theorem SC.nil {N : Nat} {pg st : Int} (h : st = 0 ∨ st = 5) : SC N pg [] st := ⟨fun _ => st, h, rfl, fun i hi => absurd hi (by simp)⟩
theorem SC.push {N : Nat} {pg : Int} {es : List (List Value)} {st p x g : Int} (h : SC N pg es st) (hp : 0 ≤ p ∧ p < (N : Int)) (hx : 0 ≤ x ∧ x < 90) (hg : g = 0 ∨ g = 3) : SC N pg (es ++ [[.int .i64 p, .int .i64 st, .int .i64 (pg + 1 + x)]]) (st + (pg + 1 + x) + g) := by
  obtain ⟨S, h0, h1, h2⟩ := h
  refine ⟨fun i => if i ≤ es.length then S i else st + (pg + 1 + x) + g, ?_, ?_, fun i hi => ?_⟩
  · show (if 0 ≤ es.length then S 0 else _) = 0 ∨ (if 0 ≤ es.length then S 0 else _) = 5
    rw [if_pos (Nat.zero_le _)]; exact h0
  · show (if (es ++ [_]).length ≤ es.length then _ else _) = _
    rw [if_neg (by simp)]
  · have hi' : i < es.length + 1 := by simpa using hi
    by_cases e : i < es.length
    · obtain ⟨p', x', g', q1, q2, q3, q4, q5⟩ := h2 i e
      refine ⟨p', x', g', ?_, q2, q3, q4, ?_⟩
      · show _ = [_, Value.int .i64 (if i ≤ es.length then S i else _), _]
        rw [if_pos (Nat.le_of_lt e), List.getD_eq_getElem?_getD, List.getElem?_append_left e, ← List.getD_eq_getElem?_getD]
        exact q1
      · show (if i + 1 ≤ es.length then S (i + 1) else _) = (if i ≤ es.length then S i else _) + _ + _
        rw [if_pos (by omega), if_pos (by omega)]; exact q5
    · obtain rfl : i = es.length := by omega
      refine ⟨p, x, g, ?_, hp, hx, hg, ?_⟩
      · show _ = [_, Value.int .i64 (if es.length ≤ es.length then S es.length else _), _]
        rw [if_pos (Nat.le_refl _), List.getD_eq_getElem?_getD, List.getElem?_append_right (Nat.le_refl _), h1]
        simp
      · show (if es.length + 1 ≤ es.length then S (es.length + 1) else _) = (if es.length ≤ es.length then S es.length else _) + _ + _
        rw [if_neg (by omega), if_pos (Nat.le_refl _), h1]
theorem LI.turn {w W2 : World} {B : Nat} {a : Option Addr} {zs : List Int} {cap V L2 : Nat} {T : TypeId} {K : Nat} {R : Value → Array Value} {Q : List Value → Prop} {wr X : World} {vL : Value} {es : List (List Value)} {i : Nat} (h : LI w W2 B a zs cap V L2 T K R Q wr vL es i) (hc : Cur X B a zs cap) (ht : Turn B wr X) (hB : B < L2) : LI w W2 B a zs cap V L2 T K R Q X vL es i :=
  ⟨h.len, h.q, owns_turn h.own ht hB, h.tw.turn ht (.inl rfl), h.st.step hc ht⟩
theorem LI.far {w W2 : World} {B : Nat} {a : Option Addr} {zs : List Int} {cap V L2 : Nat} {T : TypeId} {K : Nat} {R : Value → Array Value} {Q : List Value → Prop} {wr : World} {vL : Value} {es : List (List Value)} {i b j : Nat} {u : Value} (h : LI w W2 B a zs cap V L2 T K R Q wr vL es i) (hV : V < b) (hb : W2.heap.size ≤ b) (hL : L2 ≤ W2.heap.size) (hn : vL.ownBlock ≠ some b) : LI w W2 B a zs cap V L2 T K R Q (wr.setCell ⟨b, j, none⟩ u) vL es i :=
  ⟨h.len, h.q, owns_block h.own (fun g hg => Below.heap_setCell _ _ _ _ (by show g ≠ b; intro e; subst e; exact hn hg)), ⟨by simpa [World.setCell] using h.tw.size, fun k hk h1 h2 => (Below.heap_setCell _ _ _ _ (by show k ≠ b; omega)).trans (h.tw.block k hk h1 h2)⟩, h.st.far _ _ _ hV⟩
/-- What stands while a slot is told. -/
structure P29 (wr w : World) (B : Nat) (a : Option Addr) (zs : List Int) (cap V : Nat) (k N r st pad grd : Int) (b0 b1 b2 b3 b4 b5 b6 b7 b8 b9 b10 b11 b12 b13 b14 b15 : Bool) (x163 x164 x165 x166 x167 x168 x169 x170 x171 x172 x173 x174 x175 x176 x15 : Value) : Prop where
  cu : Cur w B a zs cap
  tu : Turn B wr w
  f0 : b0 = true → x163 = .int .i64 k
  f1 : b1 = true → x164 = .int .i64 N
  f2 : b2 = true → x165 = .int .i64 r
  f3 : b3 = true → x166 = .int .i64 st
  f4 : b4 = true → x167 = .pointer (some ⟨V, 12, none⟩)
  f5 : b5 = true → x168 = .int .i64 pad
  f6 : b6 = true → x169 = .pointer (some ⟨V, 13, none⟩)
  f7 : b7 = true → x170 = .int .i64 grd
  f8 : b8 = true → x171 = .int .i64 (pad + grd)
  f9 : b9 = true → x172 = .int .i64 (pad + grd + 1)
  f10 : b10 = true → x173 = .pointer (some ⟨B, 0, none⟩)
  f11 : b11 = true → ∃ x : Int, x174 = .int .i64 x ∧ 0 ≤ x ∧ x < 90
  f12 : b12 = true → ∃ x : Int, x175 = .int .i64 (pad + grd + 1 + x) ∧ 0 ≤ x ∧ x < 90
  f13 : b13 = true → ∃ x : Int, x176 = .agg #[.int .i64 r, .int .i64 st, .int .i64 (pad + grd + 1 + x)] ∧ 0 ≤ x ∧ x < 90
  f14 : b14 = true → ∃ b, x15 = .pointer (some ⟨b, 0, none⟩) ∧ wr.heap.size ≤ b ∧ ∃ y0 y1 y2 : Int, Bk w b #[.int .i64 y0, .int .i64 y1, .int .i64 y2] ∧ (b15 = true → ∃ x : Int, y0 = r ∧ y1 = st ∧ y2 = pad + grd + 1 + x ∧ 0 ≤ x ∧ x < 90)
  c15 : b15 = true → b13 = true ∧ b14 = true
theorem P29.move {wr w w' : World} {B : Nat} {a : Option Addr} {zs : List Int} {cap V : Nat} {k N r st pad grd : Int} {b0 b1 b2 b3 b4 b5 b6 b7 b8 b9 b10 b11 b12 b13 b14 b15 : Bool} {x163 x164 x165 x166 x167 x168 x169 x170 x171 x172 x173 x174 x175 x176 x15 : Value} (h : P29 wr w B a zs cap V k N r st pad grd b0 b1 b2 b3 b4 b5 b6 b7 b8 b9 b10 b11 b12 b13 b14 b15 x163 x164 x165 x166 x167 x168 x169 x170 x171 x172 x173 x174 x175 x176 x15) (hB : B < wr.heap.size) (hc : Cur w' B a zs cap) (ht : Turn B w w') : P29 wr w' B a zs cap V k N r st pad grd b0 b1 b2 b3 b4 b5 b6 b7 b8 b9 b10 b11 b12 b13 b14 b15 x163 x164 x165 x166 x167 x168 x169 x170 x171 x172 x173 x174 x175 x176 x15 :=
  ⟨hc, h.tu.trans ht, h.f0, h.f1, h.f2, h.f3, h.f4, h.f5, h.f6, h.f7, h.f8, h.f9, h.f10, h.f11, h.f12, h.f13, fun g => by obtain ⟨b, e, l, y0, y1, y2, q, s⟩ := h.f14 g; exact ⟨b, e, l, y0, y1, y2, q.turn ht (by omega), s⟩, h.c15⟩
/-- What stands while the place behind a slot is told. -/
structure PP (wr w : World) (B : Nat) (a : Option Addr) (zs : List Int) (cap gD : Nat) (u v : Int) (L : List Int) (b0 b1 b2 b3 b4 b5 b6 b7 b8 : Bool) (y0 y1 y2 y3 y4 y5 y6 y7 y8 : Value) : Prop where
  cu : Cur w B a zs cap
  tu : Turn B wr w
  f0 : b0 = true → y0 = .pointer (some ⟨gD, 1, none⟩)
  f1 : b1 = true → y1 = .int .i64 u
  f2 : b2 = true → y2 = .pointer (some ⟨gD, 2, none⟩)
  f3 : b3 = true → y3 = .int .i64 v
  f4 : b4 = true → y4 = .int .i64 (u + v)
  f5 : b5 = true → y5 = .pointer (some ⟨B, 0, none⟩)
  f6 : b6 = true → b7 = false → ∃ g, y6 = .slice (some ⟨g, 0, none⟩) L.length L.length ∧ wr.heap.size ≤ g ∧ Own .i64 w g L
  f7 : b7 = true → ∃ z : Int, y7 = .int .i64 z ∧ z ∈ L
  f8 : b8 = true → ∃ z : Int, y8 = .int .i64 (u + v + z) ∧ z ∈ L
theorem own_turn {k : IntKind} {w w' : World} {g B : Nat} {L : List Int} (h : Own k w g L) (ht : Turn B w w') (hn : g ≠ B) : Own k w' g L :=
  ⟨Nat.lt_of_lt_of_le h.lt ht.size, fun i hi => (ht.cell h.lt hn).trans (h.cell i hi), fun i => (ht.frozen h.lt hn).trans (h.free i)⟩
theorem PP.move {wr w w' : World} {B : Nat} {a : Option Addr} {zs : List Int} {cap gD : Nat} {u v : Int} {L : List Int} {b0 b1 b2 b3 b4 b5 b6 b7 b8 : Bool} {y0 y1 y2 y3 y4 y5 y6 y7 y8 : Value} (h : PP wr w B a zs cap gD u v L b0 b1 b2 b3 b4 b5 b6 b7 b8 y0 y1 y2 y3 y4 y5 y6 y7 y8) (hB : B < wr.heap.size) (hc : Cur w' B a zs cap) (ht : Turn B w w') : PP wr w' B a zs cap gD u v L b0 b1 b2 b3 b4 b5 b6 b7 b8 y0 y1 y2 y3 y4 y5 y6 y7 y8 :=
  ⟨hc, h.tu.trans ht, h.f0, h.f1, h.f2, h.f3, h.f4, h.f5, fun g g' => by obtain ⟨x, e, l, q⟩ := h.f6 g g'; exact ⟨x, e, l, own_turn q ht (by omega)⟩, h.f7, h.f8⟩
theorem slot_info' : ∃ i, Tryz.prog.info? 42 = some i ∧ i.zero = some (.agg #[.int .i64 0, .int .i64 0, .int .i64 0]) ∧ i.size = 3 ∧ i.bytes = 24 := by
  obtain ⟨i, hi, he⟩ := Option.map_eq_some_iff.1 (show (Tryz.prog.info? 42).map (fun i => (i.zero, i.size, i.bytes)) = some (some (.agg #[.int .i64 0, .int .i64 0, .int .i64 0]), 3, 24) by kernel_rfl)
  simp only [Prod.mk.injEq] at he
  exact ⟨i, hi, he.1, he.2.1, he.2.2⟩
theorem one_slot (p s l : Int) : ∀ u ∈ [Value.int .i64 p, .int .i64 s, .int .i64 l], u.oneCell' = true := by
  intro u hu
  simp only [List.mem_cons, List.not_mem_nil, or_false] at hu
  rcases hu with rfl | rfl | rfl <;> rfl
/-- A slot is appended and the list stored. -/
theorem LI.app {w W2 : World} {B : Nat} {a : Option Addr} {zs : List Int} {cap V L2 : Nat} {R : Value → Array Value} {wr X : World} {vL : Value} {es : List (List Value)} {k g c : Nat} {p s l : Int} (h : LI w W2 B a zs cap V L2 42 3 R slQ wr vL es k) (hL : W2.heap.size = L2) (hV : V < L2)
    (hS : ∀ v v', (R v).setIfInBounds 18 v' = R v')
    (hown : X.ownsRow L2 42 3 (.slice (some ⟨g, 0, none⟩) (k + 1) c) (k + 1) (es.flatten ++ [.int .i64 p, .int .i64 s, .int .i64 l])) (hg : wr.grownBy X vL.ownBlock) :
    Sta w X B a zs cap V (R vL) ∧ LI w W2 B a zs cap V L2 42 3 R slQ (X.setCell ⟨V, 18, none⟩ (.slice (some ⟨g, 0, none⟩) (k + 1) c)) (.slice (some ⟨g, 0, none⟩) (k + 1) c) (es ++ [[.int .i64 p, .int .i64 s, .int .i64 l]]) (k + 1) := by
  have hLw : L2 ≤ wr.heap.size := by rw [← hL]; exact h.tw.size
  have hb : Below L2 wr X := grown_below hg (fun kk e => (h.own.lt kk e).1) hLw
  have hs := h.st.belowC hb hV
  refine ⟨hs, ⟨by simp [h.len], fun e he => ?_, ?_, (h.tw.below hb (Nat.le_of_eq hL)).turn (turn_set _ _ _ _) (.inr rfl), hs.set 18 _ (hS _ _)⟩⟩
  · rcases List.mem_append.1 he with q | q
    · exact h.q e q
    · simp only [List.mem_singleton] at q; exact ⟨p, s, l, q⟩
  · exact owns_far (by simpa using hown) hV
/-- The list of slots, whole. -/
structure SF (W : World) (V N : Nat) (pg : Int) (vS : Value) (ss : List slT) (aS : Option Addr) (cS : Nat) : Prop where
  v : vS = .slice aS ss.length cS
  cap : ss.length ≤ cS
  sg : GSegL 3 (V + 1) W aS ss.length (slX ss)
  own : W.ownsRow (V + 1) 42 3 vS ss.length (flr ss.length (slX ss))
  ch : ∃ S : Nat → Int, (S 0 = 0 ∨ S 0 = 5) ∧ ∀ i, i < ss.length → ∃ x g : Int, (0 ≤ x ∧ x < 90) ∧ (g = 0 ∨ g = 3) ∧ (0 ≤ (ss.getD i sl0).1 ∧ (ss.getD i sl0).1 < (N : Int)) ∧ (ss.getD i sl0).2.1 = S i ∧ (ss.getD i sl0).2.2 = pg + 1 + x ∧ S (i + 1) = S i + (pg + 1 + x) + g
theorem SF.tw {W X : World} {B V N : Nat} {pg : Int} {vD : Value} {ds : List slT} {aD : Option Addr} {cD : Nat} (h : SF W V N pg vD ds aD cD) (ht : Tw B V W X) (hB : B ≤ V) : SF X V N pg vD ds aD cD := ⟨h.v, h.cap, h.sg.tw ht (by omega) (by omega), owns_tw h.own ht hB, h.ch⟩
theorem SF.bnd {W : World} {V N : Nat} {pg : Int} {vS : Value} {ss : List slT} {aS : Option Addr} {cS : Nat} (h : SF W V N pg vS ss aS cS) (hp : 0 ≤ pg ∧ pg ≤ 400) (hl : ss.length ≤ 6) : ∀ i, i < ss.length → (0 ≤ (ss.getD i sl0).2.1 ∧ (ss.getD i sl0).2.1 ≤ 6000) ∧ (0 ≤ (ss.getD i sl0).2.2 ∧ (ss.getD i sl0).2.2 ≤ 600) := by
  obtain ⟨S, s0, s1⟩ := h.ch
  have hb : ∀ i, i ≤ ss.length → 0 ≤ S i ∧ S i ≤ 5 + 500 * (i : Int) := by
    intro i
    induction i with
    | zero => intro _; omega
    | succ i ih =>
      intro hi
      have h1 := ih (by omega)
      obtain ⟨x, g, _, _, _, _, _, e⟩ := s1 i (by omega)
      omega
  intro i hi
  have h1 := hb i (Nat.le_of_lt hi)
  obtain ⟨x, g, h2, _, _, h3, h4, _⟩ := s1 i hi
  omega
theorem res_tabs {W : World} {B : Nat} {cs : Array Value} {tmps : Array Value} (h : W.heap[B]? = some (.cells cs 33 (0, 0))) (hl : cs.size = 19) (ht : tmps[4]? = some (.pointer (some ⟨B, 0, none⟩))) : (results Tryz.f73 tmps).run Tryz.prog W = .ok (.agg cs) W := by
  have hld : (loadVar 33 ⟨B, 0, none⟩).run Tryz.prog W = .ok (.agg cs) W := run_loadVar_row (P := Tryz.prog) W B 33 33 cs (0, 0) _ h Tryz.underlying33 rfl (by rw [hl]; kernel_rfl)
  unfold results
  rw [Tryz.results73]
  simp [ht, asAddr, hld]
def slOf : List Value → slT
  | [.int _ p, .int _ s, .int _ l] => (p, s, l)
  | _ => sl0
theorem LI.slots {w W2 : World} {B : Nat} {a : Option Addr} {zs : List Int} {cap V L2 N : Nat} {T : TypeId} {R : Value → Array Value} {wr : World} {vL : Value} {es : List (List Value)} {k : Nat} {pg st : Int} (h : LI w W2 B a zs cap V L2 T 3 R slQ wr vL es k) (hc : SC N pg es st) (hV : V < L2) (hT : T = 42 := by rfl) : ∃ ss aS cS, SF wr V N pg vL ss aS cS ∧ ss.length = k := by
  subst hT
  obtain ⟨aD, cD, h1, h2, h3⟩ := h.seg (fun e he => by obtain ⟨p, s, l, e'⟩ := he; rw [e']; rfl)
  have hl : (es.map slOf).length = k := by simp [h.len]
  have hg : ∀ i, i < k → es.getD i [] = slL ((es.map slOf).getD i sl0) := fun i hi => by
    obtain ⟨p, s, l, e'⟩ := h.at i hi
    rw [map_getD _ _ _ _ (by rw [h.len]; exact hi), e']
    rfl
  refine ⟨es.map slOf, aD, cD, ⟨by rw [hl]; exact h1, by rw [hl]; exact h2, ?_, ?_, ?_⟩, hl⟩
  · rw [hl]
    intro h0
    obtain ⟨b, off, e, q1, q2, q3, q4⟩ := h3 h0
    exact ⟨b, off, e, by omega, q2, fun i hi => by show CellsAt wr b (off + i * 3) (slL ((es.map slOf).getD i sl0)); rw [← hg i hi]; exact q3 i hi, fun g j => q4 (by omega) j⟩
  · rw [hl]
    have ho := h.own
    rw [flat_flr k es h.len, flr_congr (Y := slX (es.map slOf)) (fun i hi => hg i hi)] at ho
    exact owns_low ho hV
  · obtain ⟨S, s0, _, s2⟩ := hc
    refine ⟨S, s0, fun i hi => ?_⟩
    rw [hl] at hi
    obtain ⟨p, x, g, q1, q2, q3, q4, q5⟩ := s2 i (by rw [h.len]; exact hi)
    have e : (es.map slOf).getD i sl0 = (p, S i, pg + 1 + x) := by rw [map_getD _ _ _ _ (by rw [h.len]; exact hi), q1]; rfl
    rw [e]
    exact ⟨x, g, q3, q4, q2, rfl, rfl, q5⟩
/-- Tables whose lists are owned and lie apart from each other. -/
structure OT (lo : Nat) (W : World) (t : Tb) (ad : Ad) : Prop where
  pp : W.ownsRow lo 72 5 (.slice ad.pa ad.pn ad.pc) ad.pn (flr ad.pn (fun i => rwL (ad.Y i)))
  pd : W.ownsRow lo 3 1 (.slice ad.da ad.dn ad.dc) ad.dn (flr ad.dn (inX t.ds))
  pc : W.ownsRow lo 76 4 (.slice ad.ca ad.cn ad.cc) ad.cn (flr ad.cn (chX t.cs))
  ps : W.ownsRow lo 42 3 (.slice ad.sa ad.sn ad.sc) ad.sn (flr ad.sn (slX t.ss))
  pw : ∀ i, i < ad.pn → Good lo W (ad.Y i) (t.ps.getD i pt0)
  ap : ∀ i, i < ad.pn → ∀ b off, (ad.Y i).wa = some ⟨b, off, none⟩ → (Value.slice ad.pa ad.pn ad.pc).ownBlock ≠ some b
  two : ∀ i k, i < ad.pn → k < ad.pn → i ≠ k → ∀ b off b' off', (ad.Y i).wa = some ⟨b, off, none⟩ → (ad.Y k).wa = some ⟨b', off', none⟩ → b ≠ b'
  xd : Ap (.slice ad.pa ad.pn ad.pc) ad.Y ad.pn (.slice ad.da ad.dn ad.dc)
  xc : Ap (.slice ad.pa ad.pn ad.pc) ad.Y ad.pn (.slice ad.ca ad.cn ad.cc)
  xs : Ap (.slice ad.pa ad.pn ad.pc) ad.Y ad.pn (.slice ad.sa ad.sn ad.sc)
  ydc : ∀ g, (Value.slice ad.da ad.dn ad.dc).ownBlock = some g → (Value.slice ad.ca ad.cn ad.cc).ownBlock ≠ some g
  yds : ∀ g, (Value.slice ad.da ad.dn ad.dc).ownBlock = some g → (Value.slice ad.sa ad.sn ad.sc).ownBlock ≠ some g
  ycs : ∀ g, (Value.slice ad.ca ad.cn ad.cc).ownBlock = some g → (Value.slice ad.sa ad.sn ad.sc).ownBlock ≠ some g
theorem OT.far {lo : Nat} {W X : World} {t : Tb} {ad : Ad} (h : OT lo W t ad) (hz : W.heap.size ≤ X.heap.size) (hb : ∀ k, k < W.heap.size → lo ≤ k → X.heap[k]? = W.heap[k]?) : OT lo X t ad := by
  have ow : ∀ {e : TypeId} {k n : Nat} {v : Value} {xs : List Value}, W.ownsRow lo e k v n xs → X.ownsRow lo e k v n xs := fun q => owns_block q fun g hg => hb g (q.lt g hg).2 (q.lt g hg).1
  refine ⟨ow h.pp, ow h.pd, ow h.pc, ow h.ps, fun i hi => ?_, h.ap, h.two, h.xd, h.xc, h.xs, h.ydc, h.yds, h.ycs⟩
  have g := h.pw i hi
  refine ⟨g.nm, g.en, g.kd, g.ms, g.ln, g.cp, fun h0 => ?_⟩
  obtain ⟨c, off, e, h1, hlt, hc, hf⟩ := g.sg h0
  have hk := hb c hlt h1
  exact ⟨c, off, e, h1, Nat.lt_of_lt_of_le hlt hz, fun i hi => (hc i hi).of (fun j => World.cell?_of_block (w := W) hk), fun q j => (World.frozen?_of_block (w := W) hk).trans (hf q j)⟩
theorem OT.low {lo lo' : Nat} {W : World} {t : Tb} {ad : Ad} (h : OT lo W t ad) (hl : lo' ≤ lo) : OT lo' W t ad :=
  ⟨owns_low h.pp hl, owns_low h.pd hl, owns_low h.pc hl, owns_low h.ps hl, fun i hi => (h.pw i hi).wide hl, h.ap, h.two, h.xd, h.xc, h.xs, h.ydc, h.yds, h.ycs⟩
theorem OT.tm {lo : Nat} {W : World} {t : Tb} {ad : Ad} (h : OT lo W t ad) : TM 0 W t ad := by
  have sg : ∀ {e : TypeId} {k n : Nat} {a : Option Addr} {c : Nat} {X : Nat → List Value}, (∀ i, i < n → (X i).length = k) → W.ownsRow lo e k (.slice a n c) n (flr n X) → GSegL k 0 W a n X := fun hX q => by
    obtain ⟨a', c', e, _, h3⟩ := owns_seg q hX
    cases e
    exact h3.wide (Nat.zero_le _)
  exact ⟨⟨sg (fun _ _ => rfl) h.pp, fun i hi => (h.pw i hi).wide (Nat.zero_le _), fun h => absurd h (Nat.lt_irrefl _)⟩, sg (fun _ _ => rfl) h.pd, sg (fun _ _ => rfl) h.pc, sg (fun _ _ => rfl) h.ps⟩
/-- All of it together: the tables are as they are drawn. -/
theorem drawn_tables {W : World} {V N : Nat} {q : Tb} {mem wst xg pdv xp : Int} {vP vD vC vS : Value} {ps : List Pt} {Y : Nat → Rw} {aP aD aC aS : Option Addr} {cP cD cC cS : Nat} {ds : List Int} {cs : List chT} {ss : List slT} {z : Int}
    (hN : 2 ≤ N ∧ N ≤ 4) (hP : PF W V N mem vP ps Y aP cP) (hD : DF W V N vD ds aD cD) (hC : CF W V N vC cs aC cC) (hS : SF W V N (pdv + xp + (wst + xg)) vS ss aS cS) (hk : N ≤ ss.length ∧ ss.length ≤ N + 2)
    (e1 : q.s1 = 1 ∨ q.s1 = 2 ∨ q.s1 = 4) (e2 : q.s2 = 1 ∨ q.s2 = 2) (e3 : q.s3 = 4 ∨ q.s3 = 8 ∨ q.s3 = 16) (e4 : 1 ≤ q.tlb ∧ q.tlb ≤ 4) (c1 : 1 ≤ q.c1 ∧ q.c1 ≤ 2) (c2 : 0 ≤ q.c2 ∧ q.c2 ≤ 3) (c3 : 0 ≤ q.c3 ∧ q.c3 ≤ 2) (c4 : 0 ≤ q.c4 ∧ q.c4 ≤ 5) (c5 : 0 ≤ q.c5 ∧ q.c5 ≤ 3) (c6 : 0 ≤ q.c6 ∧ q.c6 ≤ 2) (c7 : 0 ≤ q.c7 ∧ q.c7 ≤ 2)
    (hm : q.mem = mem) (hg : q.grd = wst + xg) (hp : q.pad = pdv + xp) (hxg : xg = 0 ∨ xg = 1 ∨ xg = 5) (hxp : xp = 0 ∨ xp = 1 ∨ xp = 7) (hw : worstStep q.c1 q.c2 q.c3 q.c4 q.c5 q.c6 q.c7 = wst) (hv : q.c1 * (16 + mostN cs cs.length) + q.c7 * (q.s1 * q.s2) = pdv)
    (hz : z = 0 ∨ z = 1 ∨ z = 20) (hj : q.maj = (ss.getD (ss.length - 1) sl0).2.1 + (ss.getD (ss.length - 1) sl0).2.2 + z)
    (hAD : Ap vP Y N vD) (hAC : Ap vP Y N vC) (hAS : Ap vP Y N vS) (hDC : ∀ g, vD.ownBlock = some g → vC.ownBlock ≠ some g) (hDS : ∀ g, vD.ownBlock = some g → vS.ownBlock ≠ some g) (hCS : ∀ g, vC.ownBlock = some g → vS.ownBlock ≠ some g) :
    ∃ t ad, rowT q vP vD vC vS = tbA t ad ∧ DT t ∧ (∀ X b, b ≤ V → Tw b b W X → TM 0 X t ad) ∧ TW t ad ∧ TS ad ∧ (ad.pn ≤ ad.pc ∧ ad.sn ≤ ad.sc) ∧ OT (V + 1) W t ad := by
  have hDT : DT { q with ps := ps, ds := ds, cs := cs, ss := ss } := by
    obtain ⟨A, hA, hmem⟩ := hP.dr
    obtain ⟨S, s0, s1⟩ := hS.ch
    refine ⟨e1, e2, e3, e4, c1, c2, c3, c4, c5, c6, c7, by show 2 ≤ ps.length ∧ _; rw [hP.len]; exact hN, ⟨A, hA, hm.trans hmem⟩, ⟨hD.few, fun i hi => by show _ ∧ _ < ((ps.length : Nat) : Int); rw [hP.len]; exact hD.rng i hi⟩, ⟨hC.few, fun i hi => by show _ ∧ (_ ∧ _ < ((ps.length : Nat) : Int)) ∧ (_ ∧ _ < ((ps.length : Nat) : Int)); rw [hP.len]; exact hC.rng i hi⟩, ⟨xg, hxg, by show q.grd = worstStep _ _ _ _ _ _ _ + xg; rw [hw]; exact hg⟩, ⟨xp, hxp, ?_⟩, by show ps.length ≤ ss.length ∧ ss.length ≤ ps.length + 2; rw [hP.len]; exact hk, ⟨S, s0, fun i hi => ?_⟩, ⟨z, hz, hj⟩⟩
    · show q.pad = q.c1 * (16 + mostN cs cs.length) + q.c7 * (q.s1 * q.s2) + xp
      rw [hv]; exact hp
    · obtain ⟨x, g, r1, r2, r3, r4, r5, r6⟩ := s1 i hi
      refine ⟨x, g, r1, r2, ?_, r4, ?_, ?_⟩
      · show _ ∧ _ < ((ps.length : Nat) : Int)
        rw [hP.len]; exact r3
      · show _ = q.pad + q.grd + 1 + x
        rw [hp, hg]; exact r5
      · show _ = _ + (q.pad + q.grd + 1 + x) + g
        rw [hp, hg]; exact r6
  have hY : ∀ i, i < N → (Y i).wn = 2 ∧ (Y i).nm.size ≤ 5 := fun i hi => by
    obtain ⟨A, hA, _⟩ := hP.dr
    obtain ⟨x, y, z, e, _, _, _, _, hn, _, _, hws, _⟩ := hA.st i (by rw [hP.len]; exact hi)
    have hg := hP.good i hi
    refine ⟨by rw [← hg.ln, hws]; rfl, ?_⟩
    rw [hg.nm, hn]
    have : i = 0 ∨ i = 1 ∨ i = 2 ∨ i = 3 := by omega
    rcases this with rfl | rfl | rfl | rfl <;> decide
  have hpd : 0 ≤ q.pad ∧ q.pad ≤ 200 := by
    have h1 := hDT.padv
    obtain ⟨x, hx, e⟩ := hDT.pd
    have e' : q.pad = padV { q with ps := ps, ds := ds, cs := cs, ss := ss } + x := e
    omega
  have hgd : 0 ≤ q.grd ∧ q.grd ≤ 200 := by
    have h1 := hDT.worst
    obtain ⟨x, hx, e⟩ := hDT.g
    have e' : q.grd = worstStep q.c1 q.c2 q.c3 q.c4 q.c5 q.c6 q.c7 + x := e
    have h1' : 1 ≤ worstStep q.c1 q.c2 q.c3 q.c4 q.c5 q.c6 q.c7 ∧ worstStep q.c1 q.c2 q.c3 q.c4 q.c5 q.c6 q.c7 ≤ 92 := h1
    omega
  refine ⟨{ q with ps := ps, ds := ds, cs := cs, ss := ss }, ⟨aP, N, cP, aD, ds.length, cD, aC, cs.length, cC, aS, ss.length, cS, Y⟩, ?_, hDT, ?_, ?_, ?_, ⟨hP.cap, hS.cap⟩, ?_⟩
  · show rowT q vP vD vC vS = _
    rw [hP.v, hD.v, hC.v, hS.v]
  · intro X b hb hX
    have hT : Tw b V W X := ⟨hX.size, fun k hk h1 _ => hX.block k hk h1 h1⟩
    have gP := hP.tw hT hb
    exact ⟨⟨gP.sg.wide (Nat.zero_le _), fun i hi => (gP.good i hi).wide (Nat.zero_le _), fun h => absurd h (Nat.lt_irrefl _)⟩, (hD.tw hT hb).sg.wide (Nat.zero_le _), (hC.tw hT hb).sg.wide (Nat.zero_le _), (hS.tw hT hb).sg.wide (Nat.zero_le _)⟩
  · refine ⟨hP.len, rfl, rfl, rfl, by show N ≤ _; omega, by show ds.length ≤ _; have := hD.few; omega, by show cs.length ≤ _; have := hC.few; omega, by show ss.length ≤ _; omega, fun i hi => ?_, fun i hi j' hj' => ?_, fun i hi => ?_⟩
    · have := hY i hi
      show (Y i).wn ≤ _ ∧ (Y i).nm.size ≤ _
      omega
    · obtain ⟨A, hA, _⟩ := hP.dr
      obtain ⟨x, y, z, e, _, hy, _, _, _, _, _, hws, _⟩ := hA.st i (by rw [hP.len]; exact hi)
      have hj2 : j' < (ps.getD i pt0).ws.length := hj'
      show ((ps.getD i pt0).ws.getD j' wi0).2.1 ≤ _
      rw [hws] at hj2 ⊢
      have hj3 : j' < 2 := hj2
      have : j' = 0 ∨ j' = 1 := by omega
      rcases this with rfl | rfl
      · show (128 : Int) ≤ _; omega
      · show 32 + 4 * y ≤ _; omega
    · obtain ⟨S, hSD⟩ := hDT.s
      have h1 := hSD.at hpd hgd i (Nat.le_of_lt hi)
      obtain ⟨x, g, _, _, _, h2, _⟩ := hSD.st i hi
      have h3 : (ss.getD i sl0).2.1 = S i := h2
      have hi' : i < ss.length := hi
      show (ss.getD i sl0).2.1 ≤ _ ∧ _ ≤ (ss.getD i sl0).2.1
      omega
  · refine ⟨by show N ≤ _; omega, by show ds.length ≤ _; have := hD.few; omega, by show cs.length ≤ _; have := hC.few; omega, by show ss.length ≤ _; omega, fun i hi => ?_⟩
    have := hY i hi
    show (Y i).wn ≤ _ ∧ (Y i).nm.size ≤ _
    omega
  · have e1 := hP.v
    have e2 := hD.v
    have e3 := hC.v
    have e4 := hS.v
    subst e1 e2 e3 e4
    exact ⟨hP.own, hD.own, hC.own, hS.own, hP.good, hP.ap, hP.two, hAD, hAC, hAS, hDC, hDS, hCS⟩
/-- The end of the draw: the last number is laid, and the row goes to the answer's own room. -/
theorem drawn_end {w28 wE w' WZ : World} {B V N : Nat} {q2 q3 q4 q5 : Tb} {at0 wst xg pdv xp pg x3 x4 sP sS sL zz : Int} {vP vD vC vS : Value} {ps : List Pt} {Y : Nat → Rw} {aP aD aC aS : Option Addr} {cP cD cC cS r m : Nat} {ds : List Int} {cs : List chT} {ss : List slT}
    (hN : 2 ≤ N ∧ N ≤ 4) (hBV : B ≤ V) (hr : r ≤ V) (hP : PF w28 V N (at0 + 64) vP ps Y aP cP) (hD : DF w28 V N vD ds aD cD) (hC : CF w28 V N vC cs aC cC) (hS : SF wE V N pg vS ss aS cS) (hTE : Tw B V w28 w') (hTF : Tw B V wE w') (hTG : Tw r V w' WZ) (hk : N ≤ ss.length ∧ ss.length ≤ N + 2)
    (hq3 : q3 = { q2 with mem := at0 + 64 }) (hq4 : q4 = { q3 with grd := wst + xg, pad := pdv + xp }) (hq5 : q5 = { q4 with maj := sS + sL + zz }) (hpg : pdv + xp + (wst + xg) = pg)
    (qs3 : q2.s3 = x3) (qtl : q2.tlb = 1 + x4) (hx3 : x3 = 4 ∨ x3 = 8 ∨ x3 = 16) (hx4 : 0 ≤ x4 ∧ x4 < 4)
    (hQC : (1 ≤ q3.c1 ∧ q3.c1 ≤ 2) ∧ (0 ≤ q3.c2 ∧ q3.c2 ≤ 3) ∧ (0 ≤ q3.c3 ∧ q3.c3 ≤ 2) ∧ (0 ≤ q3.c4 ∧ q3.c4 ≤ 5) ∧ (0 ≤ q3.c5 ∧ q3.c5 ≤ 3) ∧ (0 ≤ q3.c6 ∧ q3.c6 ≤ 2) ∧ (0 ≤ q3.c7 ∧ q3.c7 ≤ 2) ∧ (q3.s1 = 1 ∨ q3.s1 = 2 ∨ q3.s1 = 4) ∧ (q3.s2 = 1 ∨ q3.s2 = 2))
    (hxg : xg = 0 ∨ xg = 1 ∨ xg = 5) (hxp : xp = 0 ∨ xp = 1 ∨ xp = 7) (hw : worstStep q3.c1 q3.c2 q3.c3 q3.c4 q3.c5 q3.c6 q3.c7 = wst) (hv : q3.c1 * (16 + mostN cs cs.length) + q3.c7 * (q3.s1 * q3.s2) = pdv) (hz : zz = 0 ∨ zz = 1 ∨ zz = 20)
    (hJ : ss.getD (ss.length - 1) sl0 = ss.getD m sl0) (hE : (sP, sS, sL) = ss.getD m sl0)
    (hAD : Ap vP Y N vD) (hAC : Ap vP Y N vC) (hAS : Ap vP Y N vS) (hDC : ∀ g, vD.ownBlock = some g → vC.ownBlock ≠ some g) (hDS : ∀ g, vD.ownBlock = some g → vS.ownBlock ≠ some g) (hCS : ∀ g, vC.ownBlock = some g → vS.ownBlock ≠ some g) :
    ∃ t ad, rowT q5 vP vD vC vS = tbA t ad ∧ DT t ∧ (∀ X b, b ≤ V → Tw b b WZ X → TM 0 X t ad) ∧ TW t ad ∧ TS ad ∧ (ad.pn ≤ ad.pc ∧ ad.sn ≤ ad.sc) ∧ OT (V + 1) WZ t ad := by
  have g1 := (hP.tw hTE hBV).tw hTG hr
  have g2 := (hD.tw hTE hBV).tw hTG hr
  have g3 := (hC.tw hTE hBV).tw hTG hr
  have g4 := (hS.tw hTF hBV).tw hTG hr
  rw [← hpg] at g4
  obtain ⟨c1, c2, c3, c4, c5, c6, c7, s1, s2⟩ := hQC
  have e1 : q5.s1 = q3.s1 := by rw [hq5, hq4]
  have e2 : q5.s2 = q3.s2 := by rw [hq5, hq4]
  have e3 : q5.s3 = q2.s3 := by rw [hq5, hq4, hq3]
  have e4 : q5.tlb = q2.tlb := by rw [hq5, hq4, hq3]
  have f1 : q5.c1 = q3.c1 := by rw [hq5, hq4]
  have f2 : q5.c2 = q3.c2 := by rw [hq5, hq4]
  have f3 : q5.c3 = q3.c3 := by rw [hq5, hq4]
  have f4 : q5.c4 = q3.c4 := by rw [hq5, hq4]
  have f5 : q5.c5 = q3.c5 := by rw [hq5, hq4]
  have f6 : q5.c6 = q3.c6 := by rw [hq5, hq4]
  have f7 : q5.c7 = q3.c7 := by rw [hq5, hq4]
  have em : q5.mem = at0 + 64 := by rw [hq5, hq4, hq3]
  have eg : q5.grd = wst + xg := by rw [hq5, hq4]
  have ep : q5.pad = pdv + xp := by rw [hq5, hq4]
  have ej : q5.maj = sS + sL + zz := by rw [hq5]
  refine drawn_tables (q := q5) (mem := at0 + 64) (wst := wst) (xg := xg) (pdv := pdv) (xp := xp) (z := zz) hN g1 g2 g3 g4 hk (by rw [e1]; exact s1) (by rw [e2]; exact s2) (by rw [e3, qs3]; exact hx3) (by rw [e4, qtl]; omega) (by rw [f1]; exact c1) (by rw [f2]; exact c2) (by rw [f3]; exact c3) (by rw [f4]; exact c4) (by rw [f5]; exact c5) (by rw [f6]; exact c6) (by rw [f7]; exact c7) em eg ep hxg hxp (by rw [f1, f2, f3, f4, f5, f6, f7]; exact hw) (by rw [f1, f7, e1, e2]; exact hv) hz ?_ hAD hAC hAS hDC hDS hCS
  rw [ej, hJ, ← hE]
end Go.Proofs.YtlomcdgfcocmmaaGreatDoor
