
/-
  Lists of rules in memory, and several of them joined into one by the library's own function. Conditions: each list has one rule at least.
-/
import Derived.Test.YtofibnmbgfggkaaGreatDoorBas
import Derived.Test.YtofibnmbgfggkaaGreatDoorRul
import Derived.OwnWalk
import Derived.Deep.AppendLies
import Derived.Lib.SmallJoins
import Derived.Lib.AppendZerosOnto
import Derived.Lib.Walk
import Derived.Lib.SliceRun
import Derived.Shelf.RegionOpenPlain
namespace Go.Proofs.YtofibnmbgfggkaaGreatDoor
open Go.ChangeShapes Go.WideShapes Go.ChangeAt Go.RowKit Go.Deep Go.Joins
set_option linter.unusedVariables false

def rnmL : List ByteArray := [(⟨#[109, 101, 109, 111, 114, 121]⟩ : ByteArray), (⟨#[115, 104, 97, 112, 101, 32, 111, 102, 32, 116, 104, 101, 32, 99, 97, 99, 104, 101]⟩ : ByteArray), (⟨#[115, 105, 122, 101, 32, 111, 102, 32, 116, 104, 101, 32, 116, 97, 98, 108, 101, 32, 111, 102, 32, 112, 97, 103, 101, 115]⟩ : ByteArray), (⟨#[99, 111, 115, 116, 115]⟩ : ByteArray), (⟨#[112, 97, 100]⟩ : ByteArray), (⟨#[103, 117, 97, 114, 100]⟩ : ByteArray), (⟨#[109, 97, 106, 111, 114]⟩ : ByteArray), (⟨#[103, 117, 97, 114, 100, 32, 99, 111, 118, 101, 114, 115, 32, 97, 32, 115, 116, 101, 112]⟩ : ByteArray), (⟨#[110, 117, 109, 98, 101, 114, 32, 111, 102, 32, 112, 97, 114, 116, 105, 116, 105, 111, 110, 115]⟩ : ByteArray), (⟨#[110, 97, 109, 101, 115]⟩ : ByteArray), (⟨#[110, 111, 32, 110, 97, 109, 101, 32, 116, 119, 105, 99, 101]⟩ : ByteArray), (⟨#[112, 111, 108, 105, 99, 105, 101, 115]⟩ : ByteArray), (⟨#[110, 117, 109, 98, 101, 114, 32, 111, 102, 32, 119, 105, 110, 100, 111, 119, 115]⟩ : ByteArray), (⟨#[119, 105, 110, 100, 111, 119, 115, 32, 119, 105, 116, 104, 105, 110, 32, 109, 101, 109, 111, 114, 121]⟩ : ByteArray), (⟨#[119, 105, 110, 100, 111, 119, 115, 32, 97, 112, 97, 114, 116]⟩ : ByteArray), (⟨#[101, 110, 116, 114, 105, 101, 115]⟩ : ByteArray), (⟨#[110, 117, 109, 98, 101, 114, 32, 111, 102, 32, 100, 101, 118, 105, 99, 101, 115]⟩ : ByteArray), (⟨#[111, 119, 110, 101, 114, 115]⟩ : ByteArray), (⟨#[110, 117, 109, 98, 101, 114, 32, 111, 102, 32, 99, 104, 97, 110, 110, 101, 108, 115]⟩ : ByteArray), (⟨#[99, 104, 97, 110, 110, 101, 108, 115]⟩ : ByteArray), (⟨#[112, 97, 100, 32, 99, 111, 118, 101, 114, 115, 32, 97, 32, 115, 119, 105, 116, 99, 104]⟩ : ByteArray), (⟨#[110, 117, 109, 98, 101, 114, 32, 111, 102, 32, 115, 108, 111, 116, 115]⟩ : ByteArray), (⟨#[104, 111, 108, 100, 101, 114, 115]⟩ : ByteArray), (⟨#[115, 108, 111, 116, 115, 32, 108, 111, 110, 103, 101, 114, 32, 116, 104, 97, 110, 32, 119, 104, 97, 116, 32, 105, 115, 32, 108, 111, 115, 116]⟩ : ByteArray), (⟨#[115, 108, 111, 116, 115, 32, 105, 110, 32, 111, 114, 100, 101, 114]⟩ : ByteArray)]
def rfidL : List Nat := [91, 92, 94, 96, 98, 100, 101, 102, 104, 106, 110, 113, 116, 118, 123, 126, 129, 130, 133, 134, 138, 140, 141, 144, 146]
def rnm (j : Nat) : ByteArray := rnmL.getD j ByteArray.empty
def rfid (j : Nat) : Nat := rfidL.getD j 0
/-- The cells of rule j over a block that holds the tables. -/
def RuAt (w : World) (t : Tb) (a : Ad) (j : Nat) (vs : List Value) : Prop := ∃ B, TBx w B t a ∧ vs = [.string (rnm j), .func (.func (rfid j)) #[] #[.pointer (some ⟨B, 0, none⟩)]]
def RuL (w : World) (t : Tb) (a : Ad) (A : Option Addr) (n s : Nat) : Prop := ∃ X : Nat → List Value, GSeg 2 w A n X ∧ ∀ i, i < n → RuAt w t a (s + i) (X i)
theorem RuAt.below {w w' : World} {t : Tb} {a : Ad} {j : Nat} {vs : List Value} (h : RuAt w t a j vs) (hb : Below w.heap.size w w') : RuAt w' t a j vs := by
  obtain ⟨B, h1, h2⟩ := h
  exact ⟨B, h1.below hb, h2⟩
theorem RuL.below {w w' : World} {t : Tb} {a : Ad} {A : Option Addr} {n s : Nat} (h : RuL w t a A n s) (hb : Below w.heap.size w w') : RuL w' t a A n s := by
  obtain ⟨X, h1, h2⟩ := h
  exact ⟨X, h1.below hb, fun i hi => (h2 i hi).below hb⟩
def fl2 (n : Nat) (X : Nat → List Value) : List Value := (List.range n).flatMap X
theorem fl2_succ (n : Nat) (X : Nat → List Value) : fl2 (n + 1) X = fl2 n X ++ X n := by
  unfold fl2
  rw [List.range_succ, List.flatMap_append]
  simp
theorem fl2_len {n : Nat} {X : Nat → List Value} (h : ∀ i, i < n → (X i).length = 2) : (fl2 n X).length = n * 2 := by
  induction n with
  | zero => rfl
  | succ n ih => rw [fl2_succ, List.length_append, ih (fun i hi => h i (by omega)), h n (by omega)]; omega
theorem fl2_at {n : Nat} {X : Nat → List Value} (h : ∀ i, i < n → (X i).length = 2) (i j : Nat) (hi : i < n) (hj : j < 2) : (fl2 n X)[i * 2 + j]? = (X i)[j]? := by
  induction n with
  | zero => omega
  | succ n ih =>
    have hl := fl2_len (n := n) (X := X) (fun i hi => h i (by omega))
    rw [fl2_succ]
    by_cases e : i = n
    · subst e
      rw [List.getElem?_append_right (by omega), show i * 2 + j - (fl2 i X).length = j by omega]
    · rw [List.getElem?_append_left (by omega)]
      exact ih (fun i hi => h i (by omega)) (by omega)
theorem fl2_app (n m : Nat) (X Y : Nat → List Value) : fl2 n X ++ fl2 m Y = fl2 (n + m) (fun i => if i < n then X i else Y (i - n)) := by
  induction m with
  | zero =>
    have : fl2 n X = fl2 n (fun i => if i < n then X i else Y (i - n)) := by
      unfold fl2
      rw [List.flatMap_def, List.flatMap_def]
      congr 1
      apply List.map_congr_left
      intro i hi
      rw [if_pos (List.mem_range.1 hi)]
    simpa [fl2] using this
  | succ m ih =>
    rw [fl2_succ, ← List.append_assoc, ih, show n + (m + 1) = n + m + 1 by omega, fl2_succ]
    congr 1
    rw [if_neg (by omega), Nat.add_sub_cancel_left]
theorem RuAt.len {w : World} {t : Tb} {a : Ad} {j : Nat} {vs : List Value} (h : RuAt w t a j vs) : vs.length = 2 := by
  obtain ⟨B, _, rfl⟩ := h
  rfl
theorem RuAt.one {w : World} {t : Tb} {a : Ad} {j : Nat} {vs : List Value} (h : RuAt w t a j vs) : ∀ u ∈ vs, u.oneCell' = true := by
  obtain ⟨B, _, rfl⟩ := h
  intro u hu
  simp only [List.mem_cons, List.not_mem_nil, or_false] at hu
  rcases hu with rfl | rfl <;> rfl
theorem fl2_news {w : World} {b off n : Nat} {X : Nat → List Value} (hl : ∀ i, i < n → (X i).length = 2) (h : ∀ i, i < n → CellsAt w b (off + i * 2) (X i)) : ∀ j u, (fl2 n X)[j]? = some u → w.cell? ((⟨b, off, none⟩ : Addr).add j) = some u := fun j u e => by
  rw [add_plain]
  have hj : j < (fl2 n X).length := (List.getElem?_eq_some_iff.1 e).1
  rw [fl2_len hl] at hj
  have hd : j = j / 2 * 2 + j % 2 := by omega
  have hi : j / 2 < n := by omega
  rw [hd, fl2_at hl (j / 2) (j % 2) hi (by omega)] at e
  have := h (j / 2) hi (j % 2) u e
  rw [hd, ← Nat.add_assoc]
  exact this
theorem own_seg {w : World} {base n : Nat} {v : Value} {X : Nat → List Value} (hl : ∀ i, i < n → (X i).length = 2) (h : w.ownsRow base 103 2 v n (fl2 n X)) : ∃ A cap, v = .slice A n cap ∧ GSeg 2 w A n X := by
  rcases h.2 with ⟨h0, h1⟩ | ⟨g, cap, cur, rfl, hb, hg, h1, h2, h3, h4⟩
  · exact ⟨none, 0, by rw [h0, h1], fun h => absurd h (by omega)⟩
  · have hlt : g < w.heap.size := by
      rcases Nat.lt_or_ge g w.heap.size with hlt | hge
      · exact hlt
      · rw [Array.getElem?_eq_none hge] at hg; cases hg
    refine ⟨_, _, rfl, fun h0 => ⟨g, 0, rfl, hlt, fun i hi j v hj => ?_⟩⟩
    have hj3 : j < 2 := by
      have := (List.getElem?_eq_some_iff.1 hj).1
      rw [hl i hi] at this
      exact this
    have e : (fl2 n X)[i * 2 + j]? = some v := by rw [fl2_at hl i j hi hj3]; exact hj
    have hj2 : i * 2 + j < n * 2 := by omega
    rw [← h4, List.getElem?_take, if_pos hj2] at e
    rw [Nat.zero_add]
    have e2 : cur[i * 2 + j]? = some v := by simpa using e
    simp [World.cell?, hg, e2]
theorem own_block {w : World} {base n : Nat} {v : Value} {xs : List Value} (h : w.ownsRow base 103 2 v n xs) : ∀ k, v.ownBlock = some k → base ≤ k := by
  intro k hk
  rcases h.2 with ⟨h0, h1⟩ | ⟨g, cap, cur, rfl, hb, _⟩
  · rw [h0] at hk; cases hk
  · simp [Value.ownBlock] at hk; omega
theorem ru_info : (Tryz.prog.info? 103).map (fun i => (i.zero, i.size, i.bytes)) = some (some (.agg #[.string ByteArray.empty, .nilFunc]), 2, 24) := by kernel_rfl
theorem ru_info' : ∃ i, Tryz.prog.info? 103 = some i ∧ i.zero = some (.agg #[.string ByteArray.empty, .nilFunc]) ∧ i.size = 2 ∧ i.bytes = 24 := by
  obtain ⟨i, hi, h⟩ := Option.map_eq_some_iff.1 ru_info
  simp only [Prod.mk.injEq] at h
  exact ⟨i, hi, h.1, h.2.1, h.2.2⟩
set_option maxRecDepth 20000 in
set_option maxHeartbeats 4000000 in
theorem grow25 (w : World) : Calls Tryz.prog 90 #[.slice none 0 0, .int .i64 25] w fun e w' => ∃ G, e = .returned (.slice (some ⟨w.heap.size, 0, none⟩) 0 G) ∧ w'.ownsRow w.heap.size 103 2 (.slice (some ⟨w.heap.size, 0, none⟩) 0 G) 0 [] ∧ Below w.heap.size w w' := by
  obtain ⟨i0, hi0, hz0, hs0, hb0⟩ := ru_info'
  have hGn : 25 ≤ grownCap w 25 0 103 := grownCap_ge w _ _ _
  have hrz : ∀ ty, (Builtin.append_ #[99, 3] ty #[.slice none 0 0, .int .i64 25]).run Tryz.prog w = .ok (.slice (some ⟨w.heap.size, 0, none⟩) 25 (grownCap w 25 0 103)) (w.drew.alloc (.cells (([] : List Value).toArray ++ Builtin.zeroCells (Value.cells (.agg #[.string ByteArray.empty, .nilFunc])) 25 ++ Builtin.zeroCells (Value.cells (.agg #[.string ByteArray.empty, .nilFunc])) (grownCap w 25 0 103 - 25)) 103)) := fun ty => by
    have h := Lib.run_append_grow_zeros (P := Tryz.prog) w 99 3 ty 103 i0 _ .i64 .i64 Tryz.underlying99 Tryz.underlying3 hi0 hz0 none 0 0 [] (by rw [hs0]; exact run_firstCells_none w.drew 2 0 0 0) 25 (by omega) (by omega) (by omega) (by omega) (by rw [hb0]; omega) (by rw [hb0]; decide)
    simpa using h
  have hG63 : grownCap w 25 0 103 ≤ 9223372036854775807 := by
    have := grownCap_le_maxLen w 25 0 103 (by unfold maxLen; omega)
    unfold maxLen at this
    omega
  have hbel : ∀ ob, Below w.heap.size w (w.alloc ob).drew := fun ob => ((Below.refl _ w).alloc (Nat.le_refl _) _).drew
  have hown : ∀ (G : Nat) (cs : Array Value), G ≤ maxLen → cs.size = G * 2 → (w.alloc (.cells cs 103)).drew.ownsRow w.heap.size 103 2 (.slice (some ⟨w.heap.size, 0, none⟩) 0 G) 0 [] := fun G cs hM hG =>
    ⟨rfl, .inr ⟨w.heap.size, G, cs, rfl, Nat.le_refl _, by show (w.heap.push _)[w.heap.size]? = _; simp, Nat.zero_le _, hM, hG, by simp⟩⟩
  have hsz : ∀ G, 25 ≤ G → (Builtin.zeroCells #[.string ByteArray.empty, .nilFunc] 25 ++ Builtin.zeroCells #[.string ByteArray.empty, .nilFunc] (G - 25)).size = G * 2 := fun G hG => by
    simp only [Array.size_append, size_zeroCells]
    simp
    omega
  generalize grownCap w 25 0 103 = G at *
  have HO : Hid ((w.alloc (.cells (Builtin.zeroCells #[.string ByteArray.empty, .nilFunc] 25 ++ Builtin.zeroCells #[.string ByteArray.empty, .nilFunc] (G - 25)) 103)).drew.ownsRow w.heap.size 103 2 (.slice (some ⟨w.heap.size, 0, none⟩) 0 G) 0 []) := hown G _ (by unfold maxLen; omega) (hsz G hGn)
  have HBL : Hid (Below w.heap.size w (w.alloc (.cells (Builtin.zeroCells #[.string ByteArray.empty, .nilFunc] 25 ++ Builtin.zeroCells #[.string ByteArray.empty, .nilFunc] (G - 25)) 103)).drew) := hbel _
  clear hown hsz hbel hi0 hz0 hs0 hb0
  go_enter Tryz.func90, Tryz.ntmps90
  go_wp2_with (at_builtin; refine Lib.wpList_append_run _ rfl _ _ _ _ rfl _ _ rfl rfl _ _ (hrz _) ?_)
  all_goals (go_ret; exact ⟨G, rfl, HO.out, HBL.out⟩)
/-- Lists of rules that follow one another: their places, lengths and first numbers. -/
structure Five (w : World) (t : Tb) (a : Ad) (C : Nat) (A : Nat → Option Addr) (L S : Nat → Nat) : Prop where
  c : ∀ i, i < 5 → w.cell? ⟨C, i, none⟩ = some (.slice (A i) (L i) (L i))
  l : ∀ i, i < 5 → 0 < L i ∧ L i ≤ 8
  z : S 0 = 0
  s : ∀ i, i < 5 → S (i + 1) = S i + L i
  e : S 5 = 25
  r : ∀ i, i < 5 → RuL w t a (A i) (L i) (S i)
theorem Five.below {w w' : World} {t : Tb} {a : Ad} {C : Nat} {A : Nat → Option Addr} {L S : Nat → Nat} (h : Five w t a C A L S) (hb : Below w.heap.size w w') : Five w' t a C A L S :=
  ⟨fun i hi => kept_cell hb (h.c i hi), h.l, h.z, h.s, h.e, fun i hi => (h.r i hi).below hb⟩
theorem Five.le {w : World} {t : Tb} {a : Ad} {C : Nat} {A : Nat → Option Addr} {L S : Nat → Nat} (h : Five w t a C A L S) : ∀ i, i ≤ 5 → S i ≤ 8 * i := by
  intro i
  induction i with
  | zero => intro _; rw [h.z]; omega
  | succ i ih => intro hi; have := ih (by omega); have := h.s i (by omega); have := (h.l i (by omega)).2; omega
set_option maxRecDepth 20000 in
set_option maxHeartbeats 4000000 in
theorem concat5 (C : Nat) (A : Nat → Option Addr) (L S : Nat → Nat) (t : Tb) (a : Ad) (w : World) (hf : Five w t a C A L S) :
    Calls Tryz.prog 75 #[.slice (some ⟨C, 0, none⟩) 5 5] w fun e w' => (∃ A' c, e = .returned (.slice A' 25 c) ∧ RuL w' t a A' 25 0) ∧ Below w.heap.size w w' := by
  have HF : Hid (Five w t a C A L S) := hf
  obtain ⟨iW, hi1, hi2, hi3, hi4⟩ := ru_info'
  have HI : Hid (Tryz.prog.info? 103 = some iW ∧ iW.zero = some (.agg #[.string ByteArray.empty, .nilFunc]) ∧ iW.size = 2 ∧ iW.bytes = 24) := ⟨hi1, hi2, hi3, hi4⟩
  clear hi1 hi2 hi3 hi4 hf
  go_enter Tryz.func75, Tryz.ntmps75
  go_wp2
  go_loopw [3, 11] (fun v i wr => ∃ m s : Nat, m ≤ 5 ∧ s ≤ 40 ∧ i = .int .i64 m ∧ v = .int .i64 (s : Int) ∧ wr = w ∧ Hid (s = S m)) (fun _ i _ => 5 - (intOf i).toNat)
  case atStart => exact ⟨0, 0, by omega, by omega, rfl, rfl, rfl, HF.out.z.symm⟩
  case round =>
    obtain ⟨m, s, hm, hs, rfl, rfl, rfl, HS⟩ := hrel
    by_cases hmn : m < 5
    · have hmn' : (m : Int) < 5 := by omega
      have hc := HF.out.c m hmn
      have hl := HF.out.l m hmn
      have HS2 : Hid (∀ l, L m = l → s + l = S (m + 1)) := fun l h => by rw [HS.out, HF.out.s m hmn, h]
      generalize L m = l at hc hl HS2
      generalize A m = am at hc
      have HS3 : Hid (s + l = S (m + 1)) := HS2.out l rfl
      have hs2 : s + l ≤ 40 := by have := HF.out.le (m + 1) (by omega); have := HS3.out; omega
      obtain ⟨hl1, hl2⟩ := hl
      clear HS2 HS
      go_wp2
      go_roundw
      case rel => exact ⟨m + 1, s + l, by omega, hs2, by go_num, by go_num, trivial, HS3⟩
      case measure => simp [intOf]; omega
    · obtain rfl : m = 5 := by omega
      have hs25 : s = 25 := HS.out.trans HF.out.e
      subst hs25
      clear HS
      go_wp2_with fail
      refine (grow25 _).mono ?_
      rintro e w1 ⟨G, rfl, hown, hb1⟩
      have HB1 : Hid (Below wr.heap.size wr w1) := hb1
      have HO1 : Hid (w1.ownsRow wr.heap.size 103 2 (.slice (some ⟨wr.heap.size, 0, none⟩) 0 G) 0 []) := hown
      clear hb1 hown
      go_wp2
      go_loopw [6, 27] (fun v i wq => ∃ m : Nat, m ≤ 5 ∧ i = .int .i64 m ∧ Hid (Below wr.heap.size wr wq ∧ ∃ X : Nat → List Value, wq.ownsRow wr.heap.size 103 2 v (S m) (fl2 (S m) X) ∧ ∀ i, i < S m → RuAt wr t a i (X i))) (fun _ i _ => 5 - (intOf i).toNat)
      case atStart => exact ⟨0, by omega, rfl, HB1.out, fun _ => [], by rw [HF.out.z]; exact HO1.out, fun i hi => by rw [HF.out.z] at hi; omega⟩
      case round =>
        rename World => wq
        obtain ⟨m, hm, rfl, HR⟩ := hrel
        by_cases hmn : m < 5
        rotate_left
        · obtain rfl : m = 5 := by omega
          obtain ⟨hb, X, hown, hru⟩ := HR.out
          rw [HF.out.e] at hown hru
          obtain ⟨A', c, rfl, hg⟩ := own_seg (fun i hi => (hru i hi).len) hown
          have HE : Hid (RuL wq t a A' 25 0 ∧ Below wr.heap.size wr wq) := ⟨⟨X, hg, fun i hi => by rw [Nat.zero_add]; exact (hru i hi).below hb⟩, hb⟩
          clear hb hown hru hg HR
          go_wp2
          go_ret
          exact ⟨⟨A', c, rfl, HE.out.1⟩, HE.out.2⟩
        have hmn' : (m : Int) < 5 := by omega
        obtain ⟨hb, X, hown, hru⟩ := HR.out
        have hc := kept_cell hb (HF.out.c m hmn)
        obtain ⟨Xm, hgm, hrm⟩ := HF.out.r m hmn
        have hl := HF.out.l m hmn
        obtain ⟨b2, o2, hwa, hbl2, p2⟩ := hgm (by omega)
        rw [hwa] at hc
        have hlen := fun i (hi : i < L m) => (hrm i hi).len
        have hnews := fl2_news (w := wq) (b := b2) (off := o2) hlen (fun i hi => (p2 i hi).below hb)
        have hnl : (fl2 (L m) Xm).length = L m * 2 := fl2_len hlen
        have hone : ∀ u ∈ fl2 (L m) Xm, u.oneCell' = true := fun u hu => by
          unfold fl2 at hu
          obtain ⟨i, hi, hu2⟩ := List.mem_flatMap.1 hu
          exact (hrm i (List.mem_range.1 hi)).one u hu2
        have HBl : Hid (∀ k, u6.ownBlock = some k → wr.heap.size ≤ k) := own_block hown
        have hS40 := HF.out.le m (by omega)
        have HSZ : Hid (∀ (g k : Nat) (w' : World), w'.ownsRow wr.heap.size 103 2 (.slice (some ⟨g, 0, none⟩) (S m + L m) k) (S m + L m) (fl2 (S m) X ++ fl2 (L m) Xm) → ∃ X' : Nat → List Value, w'.ownsRow wr.heap.size 103 2 (.slice (some ⟨g, 0, none⟩) (S m + L m) k) (S (m + 1)) (fl2 (S (m + 1)) X') ∧ ∀ i, i < S (m + 1) → RuAt wr t a i (X' i)) := fun g k w' h => by
          refine ⟨fun i => if i < S m then X i else Xm (i - S m), ?_, fun i hi => ?_⟩
          · rw [HF.out.s m hmn, ← fl2_app]; exact h
          · rw [HF.out.s m hmn] at hi
            by_cases e : i < S m
            · simp only [e, if_true]; exact hru i e
            · simp only [e, if_false]
              have := hrm (i - S m) (by omega)
              rw [show S m + (i - S m) = i by omega] at this
              exact this
        have HOW : Hid (wq.ownsRow wr.heap.size 103 2 u6 (S m) (fl2 (S m) X)) := hown
        have HNW : Hid ((∀ j u, (fl2 (L m) Xm)[j]? = some u → wq.cell? ((⟨b2, o2, none⟩ : Addr).add j) = some u) ∧ (fl2 (L m) Xm).length = L m * 2 ∧ ∀ u ∈ fl2 (L m) Xm, u.oneCell' = true) := ⟨hnews, hnl, hone⟩
        have HBW : Hid (Below wr.heap.size wr wq) := hb
        clear hown hb hru hgm hrm p2 hlen hnews hnl hone HR hbl2 hwa
        obtain ⟨hl1, hl2⟩ := hl
        generalize fl2 (L m) Xm = fm at *
        generalize fl2 (S m) X = fs at *
        generalize L m = lm at *
        generalize S m = sm at *
        generalize A m = am at *
        go_wp2_with (at_builtin; refine wpList_append_lies _ rfl (.tmp 31) (.tmp 32) 99 rfl wr.heap.size 103 iW (.agg #[.string ByteArray.empty, .nilFunc]) 2 24 Tryz.underlying99 HI.out.1 HI.out.2.1 HI.out.2.2.1 HI.out.2.2.2 rfl (by omega) _ _ _ rfl HOW.out ⟨b2, o2, none⟩ lm lm fm rfl HNW.out.2.1 HNW.out.1 HNW.out.2.2 hl1 (by unfold maxLen; omega) (by omega) HBW.out.size _ rfl ?_; intro g cap1 w9 hown9 hgrow hat hlt9)
        go_roundw
        case rel => exact ⟨m + 1, by omega, by go_num, HBW.out.grown hgrow HBW.out.size HBl.out, HSZ.out _ _ _ hown9⟩
        case measure => simp [intOf]; omega
end Go.Proofs.YtofibnmbgfggkaaGreatDoor
