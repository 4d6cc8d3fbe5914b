/-
  Lists of rules in memory, and several of them joined into one by the library's own function. Conditions: each list has one rule at least.
  The lists of rules that the program lays, and all of them in one list. No conditions.
  Whether tables are sound: the program's own function. Conditions: the lists lie in memory, the lengths are at most 1048576, the table of extras lies as the program's text lays it.
-/
import Derived.Test.YtlomcdgfcocmmaaGreatDoorBas
import Derived.Test.YtlomcdgfcocmmaaGreatDoorRul
import Derived.OwnWalk
import Derived.Deep.AppendLies
import Derived.Lib.SmallJoins
import Derived.Lib.AppendZerosOnto
import Derived.Lib.Walk
import Derived.Lib.SliceRun
import Derived.Shelf.RegionOpenPlain
import Derived.Test.YtlomcdgfcocmmaaGreatDoorGen
import Derived.Test.YtlomcdgfcocmmaaGreatDoorClo3
import Derived.Test.YtlomcdgfcocmmaaGreatDoorClo6
namespace Go.Proofs.YtlomcdgfcocmmaaGreatDoor
open Go.ChangeShapes Go.WideShapes Go.ChangeAt Go.RowKit Go.Deep Go.Joins
set_option linter.unusedVariables false

def rnmL : List ByteArray := [(⟨#[109, 101, 109, 111, 114, 121]⟩ : ByteArray), (⟨#[115, 104, 97, 112, 101, 32, 111, 102, 32, 116, 104, 101, 32, 99, 97, 99, 104, 101]⟩ : ByteArray), (⟨#[115, 105, 122, 101, 32, 111, 102, 32, 116, 104, 101, 32, 116, 97, 98, 108, 101, 32, 111, 102, 32, 112, 97, 103, 101, 115]⟩ : ByteArray), (⟨#[99, 111, 115, 116, 115]⟩ : ByteArray), (⟨#[112, 97, 100]⟩ : ByteArray), (⟨#[103, 117, 97, 114, 100]⟩ : ByteArray), (⟨#[109, 97, 106, 111, 114]⟩ : ByteArray), (⟨#[103, 117, 97, 114, 100, 32, 99, 111, 118, 101, 114, 115, 32, 97, 32, 115, 116, 101, 112]⟩ : ByteArray), (⟨#[110, 117, 109, 98, 101, 114, 32, 111, 102, 32, 112, 97, 114, 116, 105, 116, 105, 111, 110, 115]⟩ : ByteArray), (⟨#[110, 97, 109, 101, 115]⟩ : ByteArray), (⟨#[110, 111, 32, 110, 97, 109, 101, 32, 116, 119, 105, 99, 101]⟩ : ByteArray), (⟨#[112, 111, 108, 105, 99, 105, 101, 115]⟩ : ByteArray), (⟨#[110, 117, 109, 98, 101, 114, 32, 111, 102, 32, 119, 105, 110, 100, 111, 119, 115]⟩ : ByteArray), (⟨#[119, 105, 110, 100, 111, 119, 115, 32, 119, 105, 116, 104, 105, 110, 32, 109, 101, 109, 111, 114, 121]⟩ : ByteArray), (⟨#[119, 105, 110, 100, 111, 119, 115, 32, 97, 112, 97, 114, 116]⟩ : ByteArray), (⟨#[101, 110, 116, 114, 105, 101, 115]⟩ : ByteArray), (⟨#[110, 117, 109, 98, 101, 114, 32, 111, 102, 32, 100, 101, 118, 105, 99, 101, 115]⟩ : ByteArray), (⟨#[111, 119, 110, 101, 114, 115]⟩ : ByteArray), (⟨#[110, 117, 109, 98, 101, 114, 32, 111, 102, 32, 99, 104, 97, 110, 110, 101, 108, 115]⟩ : ByteArray), (⟨#[99, 104, 97, 110, 110, 101, 108, 115]⟩ : ByteArray), (⟨#[112, 97, 100, 32, 99, 111, 118, 101, 114, 115, 32, 97, 32, 115, 119, 105, 116, 99, 104]⟩ : ByteArray), (⟨#[110, 117, 109, 98, 101, 114, 32, 111, 102, 32, 115, 108, 111, 116, 115]⟩ : ByteArray), (⟨#[104, 111, 108, 100, 101, 114, 115]⟩ : ByteArray), (⟨#[115, 108, 111, 116, 115, 32, 108, 111, 110, 103, 101, 114, 32, 116, 104, 97, 110, 32, 119, 104, 97, 116, 32, 105, 115, 32, 108, 111, 115, 116]⟩ : ByteArray), (⟨#[115, 108, 111, 116, 115, 32, 105, 110, 32, 111, 114, 100, 101, 114]⟩ : ByteArray)]
def rfidL : List Nat := [113, 115, 117, 119, 121, 123, 124, 125, 127, 128, 132, 135, 138, 140, 146, 149, 152, 153, 154, 155, 159, 161, 162, 165, 167]
def rnm (j : Nat) : ByteArray := rnmL.getD j ByteArray.empty
def rfid (j : Nat) : Nat := rfidL.getD j 0
/-- The cells of rule j over a block that holds the tables. -/
def RuAt (w : World) (t : Tb) (a : Ad) (j : Nat) (vs : List Value) : Prop := ∃ B, TBx w B t a ∧ vs = [.string (rnm j), .func (.func (rfid j)) #[] #[.pointer (some ⟨B, 0, none⟩)]]
def RuL (w : World) (t : Tb) (a : Ad) (A : Option Addr) (n s : Nat) : Prop := ∃ X : Nat → List Value, GSeg 2 w A n X ∧ ∀ i, i < n → RuAt w t a (s + i) (X i)
theorem RuAt.below {w w' : World} {t : Tb} {a : Ad} {j : Nat} {vs : List Value} (h : RuAt w t a j vs) (hb : Below w.heap.size w w') : RuAt w' t a j vs := by
  obtain ⟨B, h1, h2⟩ := h
  exact ⟨B, h1.below hb, h2⟩
theorem RuL.below {w w' : World} {t : Tb} {a : Ad} {A : Option Addr} {n s : Nat} (h : RuL w t a A n s) (hb : Below w.heap.size w w') : RuL w' t a A n s := by
  obtain ⟨X, h1, h2⟩ := h
  exact ⟨X, h1.below hb, fun i hi => (h2 i hi).below hb⟩
def fl2 (n : Nat) (X : Nat → List Value) : List Value := (List.range n).flatMap X
theorem fl2_succ (n : Nat) (X : Nat → List Value) : fl2 (n + 1) X = fl2 n X ++ X n := by
  unfold fl2
  rw [List.range_succ, List.flatMap_append]
  simp
theorem fl2_len {n : Nat} {X : Nat → List Value} (h : ∀ i, i < n → (X i).length = 2) : (fl2 n X).length = n * 2 := by
  induction n with
  | zero => rfl
  | succ n ih => rw [fl2_succ, List.length_append, ih (fun i hi => h i (by omega)), h n (by omega)]; omega
theorem fl2_at {n : Nat} {X : Nat → List Value} (h : ∀ i, i < n → (X i).length = 2) (i j : Nat) (hi : i < n) (hj : j < 2) : (fl2 n X)[i * 2 + j]? = (X i)[j]? := by
  induction n with
  | zero => omega
  | succ n ih =>
    have hl := fl2_len (n := n) (X := X) (fun i hi => h i (by omega))
    rw [fl2_succ]
    by_cases e : i = n
    · subst e
      rw [List.getElem?_append_right (by omega), show i * 2 + j - (fl2 i X).length = j by omega]
    · rw [List.getElem?_append_left (by omega)]
      exact ih (fun i hi => h i (by omega)) (by omega)
theorem fl2_app (n m : Nat) (X Y : Nat → List Value) : fl2 n X ++ fl2 m Y = fl2 (n + m) (fun i => if i < n then X i else Y (i - n)) := by
  induction m with
  | zero =>
    have : fl2 n X = fl2 n (fun i => if i < n then X i else Y (i - n)) := by
      unfold fl2
      rw [List.flatMap_def, List.flatMap_def]
      congr 1
      apply List.map_congr_left
      intro i hi
      rw [if_pos (List.mem_range.1 hi)]
    simpa [fl2] using this
  | succ m ih =>
    rw [fl2_succ, ← List.append_assoc, ih, show n + (m + 1) = n + m + 1 by omega, fl2_succ]
    congr 1
    rw [if_neg (by omega), Nat.add_sub_cancel_left]
theorem RuAt.len {w : World} {t : Tb} {a : Ad} {j : Nat} {vs : List Value} (h : RuAt w t a j vs) : vs.length = 2 := by
  obtain ⟨B, _, rfl⟩ := h
  rfl
theorem RuAt.one {w : World} {t : Tb} {a : Ad} {j : Nat} {vs : List Value} (h : RuAt w t a j vs) : ∀ u ∈ vs, u.oneCell' = true := by
  obtain ⟨B, _, rfl⟩ := h
  intro u hu
  simp only [List.mem_cons, List.not_mem_nil, or_false] at hu
  rcases hu with rfl | rfl <;> rfl
theorem fl2_news {w : World} {b off n : Nat} {X : Nat → List Value} (hl : ∀ i, i < n → (X i).length = 2) (h : ∀ i, i < n → CellsAt w b (off + i * 2) (X i)) : ∀ j u, (fl2 n X)[j]? = some u → w.cell? ((⟨b, off, none⟩ : Addr).add j) = some u := fun j u e => by
  rw [add_plain]
  have hj : j < (fl2 n X).length := (List.getElem?_eq_some_iff.1 e).1
  rw [fl2_len hl] at hj
  have hd : j = j / 2 * 2 + j % 2 := by omega
  have hi : j / 2 < n := by omega
  rw [hd, fl2_at hl (j / 2) (j % 2) hi (by omega)] at e
  have := h (j / 2) hi (j % 2) u e
  rw [hd, ← Nat.add_assoc]
  exact this
theorem own_seg {w : World} {base n : Nat} {v : Value} {X : Nat → List Value} (hl : ∀ i, i < n → (X i).length = 2) (h : w.ownsRow base 105 2 v n (fl2 n X)) : ∃ A cap, v = .slice A n cap ∧ GSeg 2 w A n X := by
  rcases h.2 with ⟨h0, h1⟩ | ⟨g, cap, cur, rfl, hb, hg, h1, h2, h3, h4⟩
  · exact ⟨none, 0, by rw [h0, h1], fun h => absurd h (by omega)⟩
  · have hlt : g < w.heap.size := by
      rcases Nat.lt_or_ge g w.heap.size with hlt | hge
      · exact hlt
      · rw [Array.getElem?_eq_none hge] at hg; cases hg
    refine ⟨_, _, rfl, fun h0 => ⟨g, 0, rfl, hlt, fun i hi j v hj => ?_⟩⟩
    have hj3 : j < 2 := by
      have := (List.getElem?_eq_some_iff.1 hj).1
      rw [hl i hi] at this
      exact this
    have e : (fl2 n X)[i * 2 + j]? = some v := by rw [fl2_at hl i j hi hj3]; exact hj
    have hj2 : i * 2 + j < n * 2 := by omega
    rw [← h4, List.getElem?_take, if_pos hj2] at e
    rw [Nat.zero_add]
    have e2 : cur[i * 2 + j]? = some v := by simpa using e
    simp [World.cell?, hg, e2]
theorem own_block {w : World} {base n : Nat} {v : Value} {xs : List Value} (h : w.ownsRow base 105 2 v n xs) : ∀ k, v.ownBlock = some k → base ≤ k := by
  intro k hk
  rcases h.2 with ⟨h0, h1⟩ | ⟨g, cap, cur, rfl, hb, _⟩
  · rw [h0] at hk; cases hk
  · simp [Value.ownBlock] at hk; omega
theorem ru_info : (Tryz.prog.info? 105).map (fun i => (i.zero, i.size, i.bytes)) = some (some (.agg #[.string ByteArray.empty, .nilFunc]), 2, 24) := by kernel_rfl
theorem ru_info' : ∃ i, Tryz.prog.info? 105 = some i ∧ i.zero = some (.agg #[.string ByteArray.empty, .nilFunc]) ∧ i.size = 2 ∧ i.bytes = 24 := by
  obtain ⟨i, hi, h⟩ := Option.map_eq_some_iff.1 ru_info
  simp only [Prod.mk.injEq] at h
  exact ⟨i, hi, h.1, h.2.1, h.2.2⟩
set_option maxRecDepth 20000 in
set_option maxHeartbeats 4000000 in
theorem grow25 (w : World) : Calls Tryz.prog 112 #[.slice none 0 0, .int .i64 25] w fun e w' => ∃ G, e = .returned (.slice (some ⟨w.heap.size, 0, none⟩) 0 G) ∧ w'.ownsRow w.heap.size 105 2 (.slice (some ⟨w.heap.size, 0, none⟩) 0 G) 0 [] ∧ Below w.heap.size w w' := by
  obtain ⟨i0, hi0, hz0, hs0, hb0⟩ := ru_info'
  have hGn : 25 ≤ grownCap w 25 0 105 := grownCap_ge w _ _ _
  have hrz : ∀ ty, (Builtin.append_ #[102, 3] ty #[.slice none 0 0, .int .i64 25]).run Tryz.prog w = .ok (.slice (some ⟨w.heap.size, 0, none⟩) 25 (grownCap w 25 0 105)) (w.drew.alloc (.cells (([] : List Value).toArray ++ Builtin.zeroCells (Value.cells (.agg #[.string ByteArray.empty, .nilFunc])) 25 ++ Builtin.zeroCells (Value.cells (.agg #[.string ByteArray.empty, .nilFunc])) (grownCap w 25 0 105 - 25)) 105)) := fun ty => by
    have h := Lib.run_append_grow_zeros (P := Tryz.prog) w 102 3 ty 105 i0 _ .i64 .i64 Tryz.underlying102 Tryz.underlying3 hi0 hz0 none 0 0 [] (by rw [hs0]; exact run_firstCells_none w.drew 2 0 0 0) 25 (by omega) (by omega) (by omega) (by omega) (by rw [hb0]; omega) (by rw [hb0]; decide)
    simpa using h
  have hG63 : grownCap w 25 0 105 ≤ 9223372036854775807 := by
    have := grownCap_le_maxLen w 25 0 105 (by unfold maxLen; omega)
    unfold maxLen at this
    omega
  have hbel : ∀ ob, Below w.heap.size w (w.alloc ob).drew := fun ob => ((Below.refl _ w).alloc (Nat.le_refl _) _).drew
  have hown : ∀ (G : Nat) (cs : Array Value), G ≤ maxLen → cs.size = G * 2 → (w.alloc (.cells cs 105)).drew.ownsRow w.heap.size 105 2 (.slice (some ⟨w.heap.size, 0, none⟩) 0 G) 0 [] := fun G cs hM hG =>
    ⟨rfl, .inr ⟨w.heap.size, G, cs, rfl, Nat.le_refl _, by show (w.heap.push _)[w.heap.size]? = _; simp, Nat.zero_le _, hM, hG, by simp⟩⟩
  have hsz : ∀ G, 25 ≤ G → (Builtin.zeroCells #[.string ByteArray.empty, .nilFunc] 25 ++ Builtin.zeroCells #[.string ByteArray.empty, .nilFunc] (G - 25)).size = G * 2 := fun G hG => by
    simp only [Array.size_append, size_zeroCells]
    simp
    omega
  generalize grownCap w 25 0 105 = G at *
  have HO : Hid ((w.alloc (.cells (Builtin.zeroCells #[.string ByteArray.empty, .nilFunc] 25 ++ Builtin.zeroCells #[.string ByteArray.empty, .nilFunc] (G - 25)) 105)).drew.ownsRow w.heap.size 105 2 (.slice (some ⟨w.heap.size, 0, none⟩) 0 G) 0 []) := hown G _ (by unfold maxLen; omega) (hsz G hGn)
  have HBL : Hid (Below w.heap.size w (w.alloc (.cells (Builtin.zeroCells #[.string ByteArray.empty, .nilFunc] 25 ++ Builtin.zeroCells #[.string ByteArray.empty, .nilFunc] (G - 25)) 105)).drew) := hbel _
  clear hown hsz hbel hi0 hz0 hs0 hb0
  go_enter Tryz.func112, Tryz.ntmps112
  go_wp2_with (at_builtin; refine Lib.wpList_append_run _ rfl _ _ _ _ rfl _ _ rfl rfl _ _ (hrz _) ?_)
  all_goals (go_ret; exact ⟨G, rfl, HO.out, HBL.out⟩)
/-- Lists of rules that follow one another: their places, lengths and first numbers. -/
structure Five (w : World) (t : Tb) (a : Ad) (C : Nat) (A : Nat → Option Addr) (L S : Nat → Nat) : Prop where
  c : ∀ i, i < 5 → w.cell? ⟨C, i, none⟩ = some (.slice (A i) (L i) (L i))
  l : ∀ i, i < 5 → 0 < L i ∧ L i ≤ 8
  z : S 0 = 0
  s : ∀ i, i < 5 → S (i + 1) = S i + L i
  e : S 5 = 25
  r : ∀ i, i < 5 → RuL w t a (A i) (L i) (S i)
theorem Five.below {w w' : World} {t : Tb} {a : Ad} {C : Nat} {A : Nat → Option Addr} {L S : Nat → Nat} (h : Five w t a C A L S) (hb : Below w.heap.size w w') : Five w' t a C A L S :=
  ⟨fun i hi => kept_cell hb (h.c i hi), h.l, h.z, h.s, h.e, fun i hi => (h.r i hi).below hb⟩
theorem Five.le {w : World} {t : Tb} {a : Ad} {C : Nat} {A : Nat → Option Addr} {L S : Nat → Nat} (h : Five w t a C A L S) : ∀ i, i ≤ 5 → S i ≤ 8 * i := by
  intro i
  induction i with
  | zero => intro _; rw [h.z]; omega
  | succ i ih => intro hi; have := ih (by omega); have := h.s i (by omega); have := (h.l i (by omega)).2; omega
set_option maxRecDepth 20000 in
set_option maxHeartbeats 4000000 in
theorem concat5 (C : Nat) (A : Nat → Option Addr) (L S : Nat → Nat) (t : Tb) (a : Ad) (w : World) (hf : Five w t a C A L S) :
    Calls Tryz.prog 94 #[.slice (some ⟨C, 0, none⟩) 5 5] w fun e w' => (∃ A' c, e = .returned (.slice A' 25 c) ∧ RuL w' t a A' 25 0) ∧ Below w.heap.size w w' := by
  have HF : Hid (Five w t a C A L S) := hf
  obtain ⟨iW, hi1, hi2, hi3, hi4⟩ := ru_info'
  have HI : Hid (Tryz.prog.info? 105 = some iW ∧ iW.zero = some (.agg #[.string ByteArray.empty, .nilFunc]) ∧ iW.size = 2 ∧ iW.bytes = 24) := ⟨hi1, hi2, hi3, hi4⟩
  clear hi1 hi2 hi3 hi4 hf
  go_enter Tryz.func94, Tryz.ntmps94
  go_wp2
  go_loopw [3, 11] (fun v i wr => ∃ m s : Nat, m ≤ 5 ∧ s ≤ 40 ∧ i = .int .i64 m ∧ v = .int .i64 (s : Int) ∧ wr = w ∧ Hid (s = S m)) (fun _ i _ => 5 - (intOf i).toNat)
  case atStart => exact ⟨0, 0, by omega, by omega, rfl, rfl, rfl, HF.out.z.symm⟩
  case round =>
    obtain ⟨m, s, hm, hs, rfl, rfl, rfl, HS⟩ := hrel
    by_cases hmn : m < 5
    · have hmn' : (m : Int) < 5 := by omega
      have hc := HF.out.c m hmn
      have hl := HF.out.l m hmn
      have HS2 : Hid (∀ l, L m = l → s + l = S (m + 1)) := fun l h => by rw [HS.out, HF.out.s m hmn, h]
      generalize L m = l at hc hl HS2
      generalize A m = am at hc
      have HS3 : Hid (s + l = S (m + 1)) := HS2.out l rfl
      have hs2 : s + l ≤ 40 := by have := HF.out.le (m + 1) (by omega); have := HS3.out; omega
      obtain ⟨hl1, hl2⟩ := hl
      clear HS2 HS
      go_wp2
      go_roundw
      case rel => exact ⟨m + 1, s + l, by omega, hs2, by go_num, by go_num, trivial, HS3⟩
      case measure => simp [intOf]; omega
    · obtain rfl : m = 5 := by omega
      have hs25 : s = 25 := HS.out.trans HF.out.e
      subst hs25
      clear HS
      go_wp2_with fail
      refine (grow25 _).mono ?_
      rintro e w1 ⟨G, rfl, hown, hb1⟩
      have HB1 : Hid (Below wr.heap.size wr w1) := hb1
      have HO1 : Hid (w1.ownsRow wr.heap.size 105 2 (.slice (some ⟨wr.heap.size, 0, none⟩) 0 G) 0 []) := hown
      clear hb1 hown
      go_wp2
      go_loopw [6, 27] (fun v i wq => ∃ m : Nat, m ≤ 5 ∧ i = .int .i64 m ∧ Hid (Below wr.heap.size wr wq ∧ ∃ X : Nat → List Value, wq.ownsRow wr.heap.size 105 2 v (S m) (fl2 (S m) X) ∧ ∀ i, i < S m → RuAt wr t a i (X i))) (fun _ i _ => 5 - (intOf i).toNat)
      case atStart => exact ⟨0, by omega, rfl, HB1.out, fun _ => [], by rw [HF.out.z]; exact HO1.out, fun i hi => by rw [HF.out.z] at hi; omega⟩
      case round =>
        rename World => wq
        obtain ⟨m, hm, rfl, HR⟩ := hrel
        by_cases hmn : m < 5
        rotate_left
        · obtain rfl : m = 5 := by omega
          obtain ⟨hb, X, hown, hru⟩ := HR.out
          rw [HF.out.e] at hown hru
          obtain ⟨A', c, rfl, hg⟩ := own_seg (fun i hi => (hru i hi).len) hown
          have HE : Hid (RuL wq t a A' 25 0 ∧ Below wr.heap.size wr wq) := ⟨⟨X, hg, fun i hi => by rw [Nat.zero_add]; exact (hru i hi).below hb⟩, hb⟩
          clear hb hown hru hg HR
          go_wp2
          go_ret
          exact ⟨⟨A', c, rfl, HE.out.1⟩, HE.out.2⟩
        have hmn' : (m : Int) < 5 := by omega
        obtain ⟨hb, X, hown, hru⟩ := HR.out
        have hc := kept_cell hb (HF.out.c m hmn)
        obtain ⟨Xm, hgm, hrm⟩ := HF.out.r m hmn
        have hl := HF.out.l m hmn
        obtain ⟨b2, o2, hwa, hbl2, p2⟩ := hgm (by omega)
        rw [hwa] at hc
        have hlen := fun i (hi : i < L m) => (hrm i hi).len
        have hnews := fl2_news (w := wq) (b := b2) (off := o2) hlen (fun i hi => (p2 i hi).below hb)
        have hnl : (fl2 (L m) Xm).length = L m * 2 := fl2_len hlen
        have hone : ∀ u ∈ fl2 (L m) Xm, u.oneCell' = true := fun u hu => by
          unfold fl2 at hu
          obtain ⟨i, hi, hu2⟩ := List.mem_flatMap.1 hu
          exact (hrm i (List.mem_range.1 hi)).one u hu2
        have HBl : Hid (∀ k, u6.ownBlock = some k → wr.heap.size ≤ k) := own_block hown
        have hS40 := HF.out.le m (by omega)
        have HSZ : Hid (∀ (g k : Nat) (w' : World), w'.ownsRow wr.heap.size 105 2 (.slice (some ⟨g, 0, none⟩) (S m + L m) k) (S m + L m) (fl2 (S m) X ++ fl2 (L m) Xm) → ∃ X' : Nat → List Value, w'.ownsRow wr.heap.size 105 2 (.slice (some ⟨g, 0, none⟩) (S m + L m) k) (S (m + 1)) (fl2 (S (m + 1)) X') ∧ ∀ i, i < S (m + 1) → RuAt wr t a i (X' i)) := fun g k w' h => by
          refine ⟨fun i => if i < S m then X i else Xm (i - S m), ?_, fun i hi => ?_⟩
          · rw [HF.out.s m hmn, ← fl2_app]; exact h
          · rw [HF.out.s m hmn] at hi
            by_cases e : i < S m
            · simp only [e, if_true]; exact hru i e
            · simp only [e, if_false]
              have := hrm (i - S m) (by omega)
              rw [show S m + (i - S m) = i by omega] at this
              exact this
        have HOW : Hid (wq.ownsRow wr.heap.size 105 2 u6 (S m) (fl2 (S m) X)) := hown
        have HNW : Hid ((∀ j u, (fl2 (L m) Xm)[j]? = some u → wq.cell? ((⟨b2, o2, none⟩ : Addr).add j) = some u) ∧ (fl2 (L m) Xm).length = L m * 2 ∧ ∀ u ∈ fl2 (L m) Xm, u.oneCell' = true) := ⟨hnews, hnl, hone⟩
        have HBW : Hid (Below wr.heap.size wr wq) := hb
        clear hown hb hru hgm hrm p2 hlen hnews hnl hone HR hbl2 hwa
        obtain ⟨hl1, hl2⟩ := hl
        generalize fl2 (L m) Xm = fm at *
        generalize fl2 (S m) X = fs at *
        generalize L m = lm at *
        generalize S m = sm at *
        generalize A m = am at *
        go_wp2_with (at_builtin; refine wpList_append_lies _ rfl (.tmp 31) (.tmp 32) 102 rfl wr.heap.size 105 iW (.agg #[.string ByteArray.empty, .nilFunc]) 2 24 Tryz.underlying102 HI.out.1 HI.out.2.1 HI.out.2.2.1 HI.out.2.2.2 rfl (by omega) _ _ _ rfl HOW.out ⟨b2, o2, none⟩ lm lm fm rfl HNW.out.2.1 HNW.out.1 HNW.out.2.2 hl1 (by unfold maxLen; omega) (by omega) HBW.out.size _ rfl ?_; intro g cap1 w9 hown9 hgrow hat hlt9)
        go_roundw
        case rel => exact ⟨m + 1, by omega, by go_num, HBW.out.grown hgrow HBW.out.size HBl.out, HSZ.out _ _ _ hown9⟩
        case measure => simp [intOf]; omega
end Go.Proofs.YtlomcdgfcocmmaaGreatDoor
namespace Go.Proofs.YtlomcdgfcocmmaaGreatDoor
open Go.ChangeShapes Go.WideShapes Go.ChangeAt Go.RowKit Go.Deep Go.Joins
set_option linter.unusedVariables false

theorem gseg_lit {w : World} {b n : Nat} {L : List Value} {X : Nat → List Value} (hc : CellsAt w b 0 L) (hlt : b < w.heap.size) (h : ∀ i, i < n → L[i * 2]? = (X i)[0]? ∧ L[i * 2 + 1]? = (X i)[1]?) (hl : ∀ i, i < n → (X i).length = 2) : GSeg 2 w (some ⟨b, 0, none⟩) n X := fun _ => by
  refine ⟨b, 0, rfl, hlt, fun i hi j v hj => ?_⟩
  have hj2 : j < 2 := by
    have := (List.getElem?_eq_some_iff.1 hj).1
    rw [hl i hi] at this
    exact this
  rw [Nat.zero_add]
  match j, hj2 with
  | 0, _ => rw [Nat.add_zero]; exact cell0 hc _ ((h i hi).1.trans hj)
  | 1, _ => exact cell0 hc _ ((h i hi).2.trans hj)
set_option maxRecDepth 40000 in
set_option maxHeartbeats 4000000 in
theorem xr0 (t : Tb) (a : Ad) (w : World) : Calls Tryz.prog 95 #[tbV t a] w fun e w' => (∃ A, e = .returned (.slice A 8 8) ∧ RuL w' t a A 8 0) ∧ Below w.heap.size w w' := by
  have HB : Hid (Below w.heap.size w ((w.alloc (.cells (tbA t a) 33)).alloc (.cells #[.string (⟨#[109, 101, 109, 111, 114, 121]⟩), .func (.func 113) #[] #[.pointer (some ⟨w.heap.size, 0, none⟩)], .string (⟨#[115, 104, 97, 112, 101, 32, 111, 102, 32, 116, 104, 101, 32, 99, 97, 99, 104, 101]⟩), .func (.func 115) #[] #[.pointer (some ⟨w.heap.size, 0, none⟩)], .string (⟨#[115, 105, 122, 101, 32, 111, 102, 32, 116, 104, 101, 32, 116, 97, 98, 108, 101, 32, 111, 102, 32, 112, 97, 103, 101, 115]⟩), .func (.func 117) #[] #[.pointer (some ⟨w.heap.size, 0, none⟩)], .string (⟨#[99, 111, 115, 116, 115]⟩), .func (.func 119) #[] #[.pointer (some ⟨w.heap.size, 0, none⟩)], .string (⟨#[112, 97, 100]⟩), .func (.func 121) #[] #[.pointer (some ⟨w.heap.size, 0, none⟩)], .string (⟨#[103, 117, 97, 114, 100]⟩), .func (.func 123) #[] #[.pointer (some ⟨w.heap.size, 0, none⟩)], .string (⟨#[109, 97, 106, 111, 114]⟩), .func (.func 124) #[] #[.pointer (some ⟨w.heap.size, 0, none⟩)], .string (⟨#[103, 117, 97, 114, 100, 32, 99, 111, 118, 101, 114, 115, 32, 97, 32, 115, 116, 101, 112]⟩), .func (.func 125) #[] #[.pointer (some ⟨w.heap.size, 0, none⟩)]] 105))) := ((Below.refl _ _).alloc (Nat.le_refl _) _).alloc (by simp) _
  have HR : Hid (RuL ((w.alloc (.cells (tbA t a) 33)).alloc (.cells #[.string (⟨#[109, 101, 109, 111, 114, 121]⟩), .func (.func 113) #[] #[.pointer (some ⟨w.heap.size, 0, none⟩)], .string (⟨#[115, 104, 97, 112, 101, 32, 111, 102, 32, 116, 104, 101, 32, 99, 97, 99, 104, 101]⟩), .func (.func 115) #[] #[.pointer (some ⟨w.heap.size, 0, none⟩)], .string (⟨#[115, 105, 122, 101, 32, 111, 102, 32, 116, 104, 101, 32, 116, 97, 98, 108, 101, 32, 111, 102, 32, 112, 97, 103, 101, 115]⟩), .func (.func 117) #[] #[.pointer (some ⟨w.heap.size, 0, none⟩)], .string (⟨#[99, 111, 115, 116, 115]⟩), .func (.func 119) #[] #[.pointer (some ⟨w.heap.size, 0, none⟩)], .string (⟨#[112, 97, 100]⟩), .func (.func 121) #[] #[.pointer (some ⟨w.heap.size, 0, none⟩)], .string (⟨#[103, 117, 97, 114, 100]⟩), .func (.func 123) #[] #[.pointer (some ⟨w.heap.size, 0, none⟩)], .string (⟨#[109, 97, 106, 111, 114]⟩), .func (.func 124) #[] #[.pointer (some ⟨w.heap.size, 0, none⟩)], .string (⟨#[103, 117, 97, 114, 100, 32, 99, 111, 118, 101, 114, 115, 32, 97, 32, 115, 116, 101, 112]⟩), .func (.func 125) #[] #[.pointer (some ⟨w.heap.size, 0, none⟩)]] 105)) t a (some ⟨w.heap.size + 1, 0, none⟩) 8 0) :=
    ⟨fun i => [.string (rnm (0 + i)), .func (.func (rfid (0 + i))) #[] #[.pointer (some ⟨w.heap.size, 0, none⟩)]],
      gseg_lit (CellsAt.new _ [.string (⟨#[109, 101, 109, 111, 114, 121]⟩), .func (.func 113) #[] #[.pointer (some ⟨w.heap.size, 0, none⟩)], .string (⟨#[115, 104, 97, 112, 101, 32, 111, 102, 32, 116, 104, 101, 32, 99, 97, 99, 104, 101]⟩), .func (.func 115) #[] #[.pointer (some ⟨w.heap.size, 0, none⟩)], .string (⟨#[115, 105, 122, 101, 32, 111, 102, 32, 116, 104, 101, 32, 116, 97, 98, 108, 101, 32, 111, 102, 32, 112, 97, 103, 101, 115]⟩), .func (.func 117) #[] #[.pointer (some ⟨w.heap.size, 0, none⟩)], .string (⟨#[99, 111, 115, 116, 115]⟩), .func (.func 119) #[] #[.pointer (some ⟨w.heap.size, 0, none⟩)], .string (⟨#[112, 97, 100]⟩), .func (.func 121) #[] #[.pointer (some ⟨w.heap.size, 0, none⟩)], .string (⟨#[103, 117, 97, 114, 100]⟩), .func (.func 123) #[] #[.pointer (some ⟨w.heap.size, 0, none⟩)], .string (⟨#[109, 97, 106, 111, 114]⟩), .func (.func 124) #[] #[.pointer (some ⟨w.heap.size, 0, none⟩)], .string (⟨#[103, 117, 97, 114, 100, 32, 99, 111, 118, 101, 114, 115, 32, 97, 32, 115, 116, 101, 112]⟩), .func (.func 125) #[] #[.pointer (some ⟨w.heap.size, 0, none⟩)]] 105 _ (by simp)) (by simp) (fun i hi => by
        match i, hi with
        | 0, _ => exact ⟨rfl, rfl⟩
        | 1, _ => exact ⟨rfl, rfl⟩
        | 2, _ => exact ⟨rfl, rfl⟩
        | 3, _ => exact ⟨rfl, rfl⟩
        | 4, _ => exact ⟨rfl, rfl⟩
        | 5, _ => exact ⟨rfl, rfl⟩
        | 6, _ => exact ⟨rfl, rfl⟩
        | 7, _ => exact ⟨rfl, rfl⟩
        | i + 8, hi => exact absurd hi (by omega)) (fun _ _ => rfl),
      fun i hi => ⟨w.heap.size, (TBx.new w t a _ rfl).below ((Below.refl _ _).alloc (Nat.le_refl _) _), rfl⟩⟩
  go_enter Tryz.func95, Tryz.ntmps95
  go_wp2
  go_ret
  exact ⟨⟨_, rfl, HR.out⟩, HB.out⟩
set_option maxRecDepth 40000 in
set_option maxHeartbeats 4000000 in
theorem xr1 (t : Tb) (a : Ad) (w : World) : Calls Tryz.prog 96 #[tbV t a] w fun e w' => (∃ A, e = .returned (.slice A 4 4) ∧ RuL w' t a A 4 8) ∧ Below w.heap.size w w' := by
  have HB : Hid (Below w.heap.size w ((w.alloc (.cells (tbA t a) 33)).alloc (.cells #[.string (⟨#[110, 117, 109, 98, 101, 114, 32, 111, 102, 32, 112, 97, 114, 116, 105, 116, 105, 111, 110, 115]⟩), .func (.func 127) #[] #[.pointer (some ⟨w.heap.size, 0, none⟩)], .string (⟨#[110, 97, 109, 101, 115]⟩), .func (.func 128) #[] #[.pointer (some ⟨w.heap.size, 0, none⟩)], .string (⟨#[110, 111, 32, 110, 97, 109, 101, 32, 116, 119, 105, 99, 101]⟩), .func (.func 132) #[] #[.pointer (some ⟨w.heap.size, 0, none⟩)], .string (⟨#[112, 111, 108, 105, 99, 105, 101, 115]⟩), .func (.func 135) #[] #[.pointer (some ⟨w.heap.size, 0, none⟩)]] 105))) := ((Below.refl _ _).alloc (Nat.le_refl _) _).alloc (by simp) _
  have HR : Hid (RuL ((w.alloc (.cells (tbA t a) 33)).alloc (.cells #[.string (⟨#[110, 117, 109, 98, 101, 114, 32, 111, 102, 32, 112, 97, 114, 116, 105, 116, 105, 111, 110, 115]⟩), .func (.func 127) #[] #[.pointer (some ⟨w.heap.size, 0, none⟩)], .string (⟨#[110, 97, 109, 101, 115]⟩), .func (.func 128) #[] #[.pointer (some ⟨w.heap.size, 0, none⟩)], .string (⟨#[110, 111, 32, 110, 97, 109, 101, 32, 116, 119, 105, 99, 101]⟩), .func (.func 132) #[] #[.pointer (some ⟨w.heap.size, 0, none⟩)], .string (⟨#[112, 111, 108, 105, 99, 105, 101, 115]⟩), .func (.func 135) #[] #[.pointer (some ⟨w.heap.size, 0, none⟩)]] 105)) t a (some ⟨w.heap.size + 1, 0, none⟩) 4 8) :=
    ⟨fun i => [.string (rnm (8 + i)), .func (.func (rfid (8 + i))) #[] #[.pointer (some ⟨w.heap.size, 0, none⟩)]],
      gseg_lit (CellsAt.new _ [.string (⟨#[110, 117, 109, 98, 101, 114, 32, 111, 102, 32, 112, 97, 114, 116, 105, 116, 105, 111, 110, 115]⟩), .func (.func 127) #[] #[.pointer (some ⟨w.heap.size, 0, none⟩)], .string (⟨#[110, 97, 109, 101, 115]⟩), .func (.func 128) #[] #[.pointer (some ⟨w.heap.size, 0, none⟩)], .string (⟨#[110, 111, 32, 110, 97, 109, 101, 32, 116, 119, 105, 99, 101]⟩), .func (.func 132) #[] #[.pointer (some ⟨w.heap.size, 0, none⟩)], .string (⟨#[112, 111, 108, 105, 99, 105, 101, 115]⟩), .func (.func 135) #[] #[.pointer (some ⟨w.heap.size, 0, none⟩)]] 105 _ (by simp)) (by simp) (fun i hi => by
        match i, hi with
        | 0, _ => exact ⟨rfl, rfl⟩
        | 1, _ => exact ⟨rfl, rfl⟩
        | 2, _ => exact ⟨rfl, rfl⟩
        | 3, _ => exact ⟨rfl, rfl⟩
        | i + 4, hi => exact absurd hi (by omega)) (fun _ _ => rfl),
      fun i hi => ⟨w.heap.size, (TBx.new w t a _ rfl).below ((Below.refl _ _).alloc (Nat.le_refl _) _), rfl⟩⟩
  go_enter Tryz.func96, Tryz.ntmps96
  go_wp2
  go_ret
  exact ⟨⟨_, rfl, HR.out⟩, HB.out⟩
set_option maxRecDepth 40000 in
set_option maxHeartbeats 4000000 in
theorem xr2 (t : Tb) (a : Ad) (w : World) : Calls Tryz.prog 97 #[tbV t a] w fun e w' => (∃ A, e = .returned (.slice A 4 4) ∧ RuL w' t a A 4 12) ∧ Below w.heap.size w w' := by
  have HB : Hid (Below w.heap.size w ((w.alloc (.cells (tbA t a) 33)).alloc (.cells #[.string (⟨#[110, 117, 109, 98, 101, 114, 32, 111, 102, 32, 119, 105, 110, 100, 111, 119, 115]⟩), .func (.func 138) #[] #[.pointer (some ⟨w.heap.size, 0, none⟩)], .string (⟨#[119, 105, 110, 100, 111, 119, 115, 32, 119, 105, 116, 104, 105, 110, 32, 109, 101, 109, 111, 114, 121]⟩), .func (.func 140) #[] #[.pointer (some ⟨w.heap.size, 0, none⟩)], .string (⟨#[119, 105, 110, 100, 111, 119, 115, 32, 97, 112, 97, 114, 116]⟩), .func (.func 146) #[] #[.pointer (some ⟨w.heap.size, 0, none⟩)], .string (⟨#[101, 110, 116, 114, 105, 101, 115]⟩), .func (.func 149) #[] #[.pointer (some ⟨w.heap.size, 0, none⟩)]] 105))) := ((Below.refl _ _).alloc (Nat.le_refl _) _).alloc (by simp) _
  have HR : Hid (RuL ((w.alloc (.cells (tbA t a) 33)).alloc (.cells #[.string (⟨#[110, 117, 109, 98, 101, 114, 32, 111, 102, 32, 119, 105, 110, 100, 111, 119, 115]⟩), .func (.func 138) #[] #[.pointer (some ⟨w.heap.size, 0, none⟩)], .string (⟨#[119, 105, 110, 100, 111, 119, 115, 32, 119, 105, 116, 104, 105, 110, 32, 109, 101, 109, 111, 114, 121]⟩), .func (.func 140) #[] #[.pointer (some ⟨w.heap.size, 0, none⟩)], .string (⟨#[119, 105, 110, 100, 111, 119, 115, 32, 97, 112, 97, 114, 116]⟩), .func (.func 146) #[] #[.pointer (some ⟨w.heap.size, 0, none⟩)], .string (⟨#[101, 110, 116, 114, 105, 101, 115]⟩), .func (.func 149) #[] #[.pointer (some ⟨w.heap.size, 0, none⟩)]] 105)) t a (some ⟨w.heap.size + 1, 0, none⟩) 4 12) :=
    ⟨fun i => [.string (rnm (12 + i)), .func (.func (rfid (12 + i))) #[] #[.pointer (some ⟨w.heap.size, 0, none⟩)]],
      gseg_lit (CellsAt.new _ [.string (⟨#[110, 117, 109, 98, 101, 114, 32, 111, 102, 32, 119, 105, 110, 100, 111, 119, 115]⟩), .func (.func 138) #[] #[.pointer (some ⟨w.heap.size, 0, none⟩)], .string (⟨#[119, 105, 110, 100, 111, 119, 115, 32, 119, 105, 116, 104, 105, 110, 32, 109, 101, 109, 111, 114, 121]⟩), .func (.func 140) #[] #[.pointer (some ⟨w.heap.size, 0, none⟩)], .string (⟨#[119, 105, 110, 100, 111, 119, 115, 32, 97, 112, 97, 114, 116]⟩), .func (.func 146) #[] #[.pointer (some ⟨w.heap.size, 0, none⟩)], .string (⟨#[101, 110, 116, 114, 105, 101, 115]⟩), .func (.func 149) #[] #[.pointer (some ⟨w.heap.size, 0, none⟩)]] 105 _ (by simp)) (by simp) (fun i hi => by
        match i, hi with
        | 0, _ => exact ⟨rfl, rfl⟩
        | 1, _ => exact ⟨rfl, rfl⟩
        | 2, _ => exact ⟨rfl, rfl⟩
        | 3, _ => exact ⟨rfl, rfl⟩
        | i + 4, hi => exact absurd hi (by omega)) (fun _ _ => rfl),
      fun i hi => ⟨w.heap.size, (TBx.new w t a _ rfl).below ((Below.refl _ _).alloc (Nat.le_refl _) _), rfl⟩⟩
  go_enter Tryz.func97, Tryz.ntmps97
  go_wp2
  go_ret
  exact ⟨⟨_, rfl, HR.out⟩, HB.out⟩
set_option maxRecDepth 40000 in
set_option maxHeartbeats 4000000 in
theorem xr3 (t : Tb) (a : Ad) (w : World) : Calls Tryz.prog 98 #[tbV t a] w fun e w' => (∃ A, e = .returned (.slice A 5 5) ∧ RuL w' t a A 5 16) ∧ Below w.heap.size w w' := by
  have HB : Hid (Below w.heap.size w ((w.alloc (.cells (tbA t a) 33)).alloc (.cells #[.string (⟨#[110, 117, 109, 98, 101, 114, 32, 111, 102, 32, 100, 101, 118, 105, 99, 101, 115]⟩), .func (.func 152) #[] #[.pointer (some ⟨w.heap.size, 0, none⟩)], .string (⟨#[111, 119, 110, 101, 114, 115]⟩), .func (.func 153) #[] #[.pointer (some ⟨w.heap.size, 0, none⟩)], .string (⟨#[110, 117, 109, 98, 101, 114, 32, 111, 102, 32, 99, 104, 97, 110, 110, 101, 108, 115]⟩), .func (.func 154) #[] #[.pointer (some ⟨w.heap.size, 0, none⟩)], .string (⟨#[99, 104, 97, 110, 110, 101, 108, 115]⟩), .func (.func 155) #[] #[.pointer (some ⟨w.heap.size, 0, none⟩)], .string (⟨#[112, 97, 100, 32, 99, 111, 118, 101, 114, 115, 32, 97, 32, 115, 119, 105, 116, 99, 104]⟩), .func (.func 159) #[] #[.pointer (some ⟨w.heap.size, 0, none⟩)]] 105))) := ((Below.refl _ _).alloc (Nat.le_refl _) _).alloc (by simp) _
  have HR : Hid (RuL ((w.alloc (.cells (tbA t a) 33)).alloc (.cells #[.string (⟨#[110, 117, 109, 98, 101, 114, 32, 111, 102, 32, 100, 101, 118, 105, 99, 101, 115]⟩), .func (.func 152) #[] #[.pointer (some ⟨w.heap.size, 0, none⟩)], .string (⟨#[111, 119, 110, 101, 114, 115]⟩), .func (.func 153) #[] #[.pointer (some ⟨w.heap.size, 0, none⟩)], .string (⟨#[110, 117, 109, 98, 101, 114, 32, 111, 102, 32, 99, 104, 97, 110, 110, 101, 108, 115]⟩), .func (.func 154) #[] #[.pointer (some ⟨w.heap.size, 0, none⟩)], .string (⟨#[99, 104, 97, 110, 110, 101, 108, 115]⟩), .func (.func 155) #[] #[.pointer (some ⟨w.heap.size, 0, none⟩)], .string (⟨#[112, 97, 100, 32, 99, 111, 118, 101, 114, 115, 32, 97, 32, 115, 119, 105, 116, 99, 104]⟩), .func (.func 159) #[] #[.pointer (some ⟨w.heap.size, 0, none⟩)]] 105)) t a (some ⟨w.heap.size + 1, 0, none⟩) 5 16) :=
    ⟨fun i => [.string (rnm (16 + i)), .func (.func (rfid (16 + i))) #[] #[.pointer (some ⟨w.heap.size, 0, none⟩)]],
      gseg_lit (CellsAt.new _ [.string (⟨#[110, 117, 109, 98, 101, 114, 32, 111, 102, 32, 100, 101, 118, 105, 99, 101, 115]⟩), .func (.func 152) #[] #[.pointer (some ⟨w.heap.size, 0, none⟩)], .string (⟨#[111, 119, 110, 101, 114, 115]⟩), .func (.func 153) #[] #[.pointer (some ⟨w.heap.size, 0, none⟩)], .string (⟨#[110, 117, 109, 98, 101, 114, 32, 111, 102, 32, 99, 104, 97, 110, 110, 101, 108, 115]⟩), .func (.func 154) #[] #[.pointer (some ⟨w.heap.size, 0, none⟩)], .string (⟨#[99, 104, 97, 110, 110, 101, 108, 115]⟩), .func (.func 155) #[] #[.pointer (some ⟨w.heap.size, 0, none⟩)], .string (⟨#[112, 97, 100, 32, 99, 111, 118, 101, 114, 115, 32, 97, 32, 115, 119, 105, 116, 99, 104]⟩), .func (.func 159) #[] #[.pointer (some ⟨w.heap.size, 0, none⟩)]] 105 _ (by simp)) (by simp) (fun i hi => by
        match i, hi with
        | 0, _ => exact ⟨rfl, rfl⟩
        | 1, _ => exact ⟨rfl, rfl⟩
        | 2, _ => exact ⟨rfl, rfl⟩
        | 3, _ => exact ⟨rfl, rfl⟩
        | 4, _ => exact ⟨rfl, rfl⟩
        | i + 5, hi => exact absurd hi (by omega)) (fun _ _ => rfl),
      fun i hi => ⟨w.heap.size, (TBx.new w t a _ rfl).below ((Below.refl _ _).alloc (Nat.le_refl _) _), rfl⟩⟩
  go_enter Tryz.func98, Tryz.ntmps98
  go_wp2
  go_ret
  exact ⟨⟨_, rfl, HR.out⟩, HB.out⟩
set_option maxRecDepth 40000 in
set_option maxHeartbeats 4000000 in
theorem xr4 (t : Tb) (a : Ad) (w : World) : Calls Tryz.prog 99 #[tbV t a] w fun e w' => (∃ A, e = .returned (.slice A 4 4) ∧ RuL w' t a A 4 21) ∧ Below w.heap.size w w' := by
  have HB : Hid (Below w.heap.size w ((w.alloc (.cells (tbA t a) 33)).alloc (.cells #[.string (⟨#[110, 117, 109, 98, 101, 114, 32, 111, 102, 32, 115, 108, 111, 116, 115]⟩), .func (.func 161) #[] #[.pointer (some ⟨w.heap.size, 0, none⟩)], .string (⟨#[104, 111, 108, 100, 101, 114, 115]⟩), .func (.func 162) #[] #[.pointer (some ⟨w.heap.size, 0, none⟩)], .string (⟨#[115, 108, 111, 116, 115, 32, 108, 111, 110, 103, 101, 114, 32, 116, 104, 97, 110, 32, 119, 104, 97, 116, 32, 105, 115, 32, 108, 111, 115, 116]⟩), .func (.func 165) #[] #[.pointer (some ⟨w.heap.size, 0, none⟩)], .string (⟨#[115, 108, 111, 116, 115, 32, 105, 110, 32, 111, 114, 100, 101, 114]⟩), .func (.func 167) #[] #[.pointer (some ⟨w.heap.size, 0, none⟩)]] 105))) := ((Below.refl _ _).alloc (Nat.le_refl _) _).alloc (by simp) _
  have HR : Hid (RuL ((w.alloc (.cells (tbA t a) 33)).alloc (.cells #[.string (⟨#[110, 117, 109, 98, 101, 114, 32, 111, 102, 32, 115, 108, 111, 116, 115]⟩), .func (.func 161) #[] #[.pointer (some ⟨w.heap.size, 0, none⟩)], .string (⟨#[104, 111, 108, 100, 101, 114, 115]⟩), .func (.func 162) #[] #[.pointer (some ⟨w.heap.size, 0, none⟩)], .string (⟨#[115, 108, 111, 116, 115, 32, 108, 111, 110, 103, 101, 114, 32, 116, 104, 97, 110, 32, 119, 104, 97, 116, 32, 105, 115, 32, 108, 111, 115, 116]⟩), .func (.func 165) #[] #[.pointer (some ⟨w.heap.size, 0, none⟩)], .string (⟨#[115, 108, 111, 116, 115, 32, 105, 110, 32, 111, 114, 100, 101, 114]⟩), .func (.func 167) #[] #[.pointer (some ⟨w.heap.size, 0, none⟩)]] 105)) t a (some ⟨w.heap.size + 1, 0, none⟩) 4 21) :=
    ⟨fun i => [.string (rnm (21 + i)), .func (.func (rfid (21 + i))) #[] #[.pointer (some ⟨w.heap.size, 0, none⟩)]],
      gseg_lit (CellsAt.new _ [.string (⟨#[110, 117, 109, 98, 101, 114, 32, 111, 102, 32, 115, 108, 111, 116, 115]⟩), .func (.func 161) #[] #[.pointer (some ⟨w.heap.size, 0, none⟩)], .string (⟨#[104, 111, 108, 100, 101, 114, 115]⟩), .func (.func 162) #[] #[.pointer (some ⟨w.heap.size, 0, none⟩)], .string (⟨#[115, 108, 111, 116, 115, 32, 108, 111, 110, 103, 101, 114, 32, 116, 104, 97, 110, 32, 119, 104, 97, 116, 32, 105, 115, 32, 108, 111, 115, 116]⟩), .func (.func 165) #[] #[.pointer (some ⟨w.heap.size, 0, none⟩)], .string (⟨#[115, 108, 111, 116, 115, 32, 105, 110, 32, 111, 114, 100, 101, 114]⟩), .func (.func 167) #[] #[.pointer (some ⟨w.heap.size, 0, none⟩)]] 105 _ (by simp)) (by simp) (fun i hi => by
        match i, hi with
        | 0, _ => exact ⟨rfl, rfl⟩
        | 1, _ => exact ⟨rfl, rfl⟩
        | 2, _ => exact ⟨rfl, rfl⟩
        | 3, _ => exact ⟨rfl, rfl⟩
        | i + 4, hi => exact absurd hi (by omega)) (fun _ _ => rfl),
      fun i hi => ⟨w.heap.size, (TBx.new w t a _ rfl).below ((Below.refl _ _).alloc (Nat.le_refl _) _), rfl⟩⟩
  go_enter Tryz.func99, Tryz.ntmps99
  go_wp2
  go_ret
  exact ⟨⟨_, rfl, HR.out⟩, HB.out⟩
def Lf (i : Nat) : Nat := [8, 4, 4, 5, 4].getD i 0
def Sf (i : Nat) : Nat := [0, 8, 12, 16, 21, 25].getD i 0
/-- What the region that joins the lists keeps, whatever order it draws. -/
structure RI (t : Tb) (a : Ad) (W0 w : World) (b1 b3 b5 b7 b9 b10 b11 b12 : Bool) (x4 x6 x8 x10 x12 x13 x14 x2 : Value) : Prop where
  gb : Below W0.heap.size W0 w
  r1 : b1 = true → ∃ A, x4 = .slice A 8 8 ∧ RuL w t a A 8 0
  r3 : b3 = true → ∃ A, x6 = .slice A 4 4 ∧ RuL w t a A 4 8
  r5 : b5 = true → ∃ A, x8 = .slice A 4 4 ∧ RuL w t a A 4 12
  r7 : b7 = true → ∃ A, x10 = .slice A 5 5 ∧ RuL w t a A 5 16
  r9 : b9 = true → ∃ A, x12 = .slice A 4 4 ∧ RuL w t a A 4 21
  r10 : b10 = true → ∃ C A, x13 = .slice (some ⟨C, 0, none⟩) 5 5 ∧ Five w t a C A Lf Sf
  r11 : b11 = true → ∃ A c, x14 = .slice A 25 c ∧ RuL w t a A 25 0
  r12 : b12 = true → ∃ A c, x2 = .slice A 25 c ∧ RuL w t a A 25 0
theorem RI.below {t : Tb} {a : Ad} {W0 w w' : World} {b1 b3 b5 b7 b9 b10 b11 b12 : Bool} {x4 x6 x8 x10 x12 x13 x14 x2 : Value} (h : RI t a W0 w b1 b3 b5 b7 b9 b10 b11 b12 x4 x6 x8 x10 x12 x13 x14 x2) (hb : Below w.heap.size w w') : RI t a W0 w' b1 b3 b5 b7 b9 b10 b11 b12 x4 x6 x8 x10 x12 x13 x14 x2 :=
  ⟨h.gb.trans (hb.mono h.gb.size), fun g => by obtain ⟨A, e, r⟩ := h.r1 g; exact ⟨A, e, r.below hb⟩, fun g => by obtain ⟨A, e, r⟩ := h.r3 g; exact ⟨A, e, r.below hb⟩, fun g => by obtain ⟨A, e, r⟩ := h.r5 g; exact ⟨A, e, r.below hb⟩, fun g => by obtain ⟨A, e, r⟩ := h.r7 g; exact ⟨A, e, r.below hb⟩, fun g => by obtain ⟨A, e, r⟩ := h.r9 g; exact ⟨A, e, r.below hb⟩,
    fun g => by obtain ⟨C, A, e, r⟩ := h.r10 g; exact ⟨C, A, e, r.below hb⟩, fun g => by obtain ⟨A, c, e, r⟩ := h.r11 g; exact ⟨A, c, e, r.below hb⟩, fun g => by obtain ⟨A, c, e, r⟩ := h.r12 g; exact ⟨A, c, e, r.below hb⟩⟩
theorem five_of {w : World} {t : Tb} {a : Ad} {C : Nat} {A1 A3 A5 A7 A9 : Option Addr} (hc : CellsAt w C 0 [.slice A1 8 8, .slice A3 4 4, .slice A5 4 4, .slice A7 5 5, .slice A9 4 4]) (h1 : RuL w t a A1 8 0) (h3 : RuL w t a A3 4 8) (h5 : RuL w t a A5 4 12) (h7 : RuL w t a A7 5 16) (h9 : RuL w t a A9 4 21) : Five w t a C (fun i => [A1, A3, A5, A7, A9].getD i none) Lf Sf := by
  refine ⟨fun i hi => ?_, fun i hi => ?_, rfl, fun i hi => ?_, rfl, fun i hi => ?_⟩
  · match i, hi with
    | 0, _ => exact cell0 hc 0 rfl
    | 1, _ => exact cell0 hc 1 rfl
    | 2, _ => exact cell0 hc 2 rfl
    | 3, _ => exact cell0 hc 3 rfl
    | 4, _ => exact cell0 hc 4 rfl
  · match i, hi with
    | 0, _ => decide
    | 1, _ => decide
    | 2, _ => decide
    | 3, _ => decide
    | 4, _ => decide
  · match i, hi with
    | 0, _ => rfl
    | 1, _ => rfl
    | 2, _ => rfl
    | 3, _ => rfl
    | 4, _ => rfl
  · match i, hi with
    | 0, _ => exact h1
    | 1, _ => exact h3
    | 2, _ => exact h5
    | 3, _ => exact h7
    | 4, _ => exact h9
set_option maxRecDepth 40000 in
set_option maxHeartbeats 8000000 in
theorem rules_any (t : Tb) (a : Ad) (w : World) : Calls Tryz.prog 72 #[tbV t a] w fun e w' => (∃ A c, e = .returned (.slice A 25 c) ∧ RuL w' t a A 25 0) ∧ Below w.heap.size w w' := by
  have HB0 : Hid (Below w.heap.size w (w.alloc (.cells (tbA t a) 33))) := (Below.refl _ _).alloc (Nat.le_refl _) _
  have HX0 : Hid (TBx (w.alloc (.cells (tbA t a) 33)) w.heap.size t a) := TBx.new w t a _ rfl
  go_enter Tryz.func72, Tryz.ntmps72
  go_wp2
  revert HB0 HX0
  generalize (w.alloc (.cells (tbA t a) 33)) = W0
  intro HB0 HX0
  have HXX : Hid (∀ X, Below W0.heap.size W0 X → X.heap[w.heap.size]? = some (.cells (tbA t a) 33 (0, 0))) := fun X hX => HX0.out.below hX
  refine wp_region_inv (by kernel_rfl) (by kernel_rfl) (fun A ℓ a' w' => ∃ (x3 x5 x7 x9 x11 x4 x6 x8 x10 x12 x13 x14 x2 : Value), a' = (((((((((((((A.put (some 3) x3).put (some 5) x5).put (some 7) x7).put (some 9) x9).put (some 11) x11).put (some 4) x4).put (some 6) x6).put (some 8) x8).put (some 10) x10).put (some 12) x12).put (some 13) x13).put (some 14) x14).put (some 2) x2) ∧ RI t a W0 w' (ℓ 1) (ℓ 3) (ℓ 5) (ℓ 7) (ℓ 9) (ℓ 10) (ℓ 11) (ℓ 12) x4 x6 x8 x10 x12 x13 x14 x2 ∧ Hid (ℓ 0 = true → x3 = tbV t a) ∧ Hid (ℓ 2 = true → x5 = tbV t a) ∧ Hid (ℓ 4 = true → x7 = tbV t a) ∧ Hid (ℓ 6 = true → x9 = tbV t a) ∧ Hid (ℓ 8 = true → x11 = tbV t a)) ?_ ?_ ?_ ?_
  · exact ⟨undef, undef, undef, undef, undef, undef, undef, undef, undef, undef, undef, undef, .slice none 0 0, (by simp only [Act.put, List.setIfInBounds_toArray, List.set_cons_zero, List.set_cons_succ]), ⟨(Below.refl _ _).drew, (fun g => by cases g), (fun g => by cases g), (fun g => by cases g), (fun g => by cases g), (fun g => by cases g), (fun g => by cases g), (fun g => by cases g), (fun g => by cases g)⟩, (show _ → _ from fun g => by cases g), (show _ → _ from fun g => by cases g), (show _ → _ from fun g => by cases g), (show _ → _ from fun g => by cases g), (show _ → _ from fun g => by cases g)⟩
  · intro ℓ a' w' hI hall
    obtain ⟨x3, x5, x7, x9, x11, x4, x6, x8, x10, x12, x13, x14, x2, rfl, hr, f0, f2, f4, f6, f8⟩ := hI
    have hall' : ∀ i, i < 13 → ℓ i = true := hall
    obtain ⟨A9, c9, rfl, hA9⟩ := hr.r12 (hall' 12 (by omega))
    have HE : Hid (RuL w' t a A9 25 0 ∧ Below w.heap.size w w') := ⟨hA9, HB0.out.trans (hr.gb.mono HB0.out.size)⟩
    clear hr hA9 f0 f2 f4 f6 f8 hall hall'
    simp only [Act.put, List.setIfInBounds_toArray, List.set_cons_zero, List.set_cons_succ]
    go_wp2
    go_ret
    exact ⟨⟨A9, c9, rfl, HE.out.1⟩, HE.out.2⟩
  · intro ℓ a' w' i o hI ho hi hL hdep K hK
    obtain ⟨x3, x5, x7, x9, x11, x4, x6, x8, x10, x12, x13, x14, x2, rfl, hr, f0, f2, f4, f6, f8⟩ := hI
    have hi7 : i < 13 := hi
    have hcs : i = 0 ∨ i = 1 ∨ i = 2 ∨ i = 3 ∨ i = 4 ∨ i = 5 ∨ i = 6 ∨ i = 7 ∨ i = 8 ∨ i = 9 ∨ i = 10 ∨ i = 11 ∨ i = 12 := by omega
    clear hi hi7
    rcases hcs with rfl | rfl | rfl | rfl | rfl | rfl | rfl | rfl | rfl | rfl | rfl | rfl | rfl
    · replace ho : some ({ dst := some 3, op := .load 33 (.tmp 1), type := 33, pos := "l13_table.go:190", after := #[], guard := none } : Oper) = some o := ho
      obtain rfl := Option.some.inj ho
      clear hdep ho
      rw [if_pos (by rfl)]
      try simp only [Act.put, List.setIfInBounds_toArray, List.set_cons_zero, List.set_cons_succ]
      refine wp_load_row (P := Tryz.prog) 33 (.tmp 1) rfl w.heap.size rfl 33 (tbA t a) (0, 0) _ (HXX.out _ hr.gb) Tryz.underlying33 rfl (by kernel_rfl) ?_
      exact hK.out _ _ (fun j => if j = 0 then true else ℓ j) ⟨tbV t a, x5, x7, x9, x11, x4, x6, x8, x10, x12, x13, x14, x2, (by simp only [Act.put, List.setIfInBounds_toArray, List.set_cons_zero, List.set_cons_succ]), hr, (show _ → _ from fun _ => rfl), f2, f4, f6, f8⟩ (if_pos rfl) (fun j hj => if_neg hj)
    · obtain rfl := Option.some.inj ho
      have g : ℓ 0 = true := hdep { on := 0, ground := Ground.data } (by simp) rfl
      clear hdep ho
      obtain rfl := f0.out g
      rw [if_pos (by rfl)]
      try simp only [Act.put, List.setIfInBounds_toArray, List.set_cons_zero, List.set_cons_succ]
      go_simp
      refine Calls.mono (xr0 t a _) ?_
      rintro e w9 ⟨⟨A9, rfl, hA9⟩, hb9⟩
      have hr9 := hr.below hb9
      exact hK.out _ _ (fun j => if j = 1 then true else ℓ j) ⟨tbV t a, x5, x7, x9, x11, .slice A9 8 8, x6, x8, x10, x12, x13, x14, x2, (by simp only [Act.put, List.setIfInBounds_toArray, List.set_cons_zero, List.set_cons_succ]), ⟨hr9.gb, (fun _ => ⟨A9, rfl, hA9⟩), hr9.r3, hr9.r5, hr9.r7, hr9.r9, hr9.r10, hr9.r11, hr9.r12⟩, (show _ → _ from fun _ => rfl), f2, f4, f6, f8⟩ (if_pos rfl) (fun j hj => if_neg hj)
    · replace ho : some ({ dst := some 5, op := .load 33 (.tmp 1), type := 33, pos := "l13_table.go:190", after := #[], guard := none } : Oper) = some o := ho
      obtain rfl := Option.some.inj ho
      clear hdep ho
      rw [if_pos (by rfl)]
      try simp only [Act.put, List.setIfInBounds_toArray, List.set_cons_zero, List.set_cons_succ]
      refine wp_load_row (P := Tryz.prog) 33 (.tmp 1) rfl w.heap.size rfl 33 (tbA t a) (0, 0) _ (HXX.out _ hr.gb) Tryz.underlying33 rfl (by kernel_rfl) ?_
      exact hK.out _ _ (fun j => if j = 2 then true else ℓ j) ⟨x3, tbV t a, x7, x9, x11, x4, x6, x8, x10, x12, x13, x14, x2, (by simp only [Act.put, List.setIfInBounds_toArray, List.set_cons_zero, List.set_cons_succ]), hr, f0, (show _ → _ from fun _ => rfl), f4, f6, f8⟩ (if_pos rfl) (fun j hj => if_neg hj)
    · obtain rfl := Option.some.inj ho
      have g : ℓ 2 = true := hdep { on := 2, ground := Ground.data } (by simp) rfl
      clear hdep ho
      obtain rfl := f2.out g
      rw [if_pos (by rfl)]
      try simp only [Act.put, List.setIfInBounds_toArray, List.set_cons_zero, List.set_cons_succ]
      go_simp
      refine Calls.mono (xr1 t a _) ?_
      rintro e w9 ⟨⟨A9, rfl, hA9⟩, hb9⟩
      have hr9 := hr.below hb9
      exact hK.out _ _ (fun j => if j = 3 then true else ℓ j) ⟨x3, tbV t a, x7, x9, x11, x4, .slice A9 4 4, x8, x10, x12, x13, x14, x2, (by simp only [Act.put, List.setIfInBounds_toArray, List.set_cons_zero, List.set_cons_succ]), ⟨hr9.gb, hr9.r1, (fun _ => ⟨A9, rfl, hA9⟩), hr9.r5, hr9.r7, hr9.r9, hr9.r10, hr9.r11, hr9.r12⟩, f0, (show _ → _ from fun _ => rfl), f4, f6, f8⟩ (if_pos rfl) (fun j hj => if_neg hj)
    · replace ho : some ({ dst := some 7, op := .load 33 (.tmp 1), type := 33, pos := "l13_table.go:190", after := #[], guard := none } : Oper) = some o := ho
      obtain rfl := Option.some.inj ho
      clear hdep ho
      rw [if_pos (by rfl)]
      try simp only [Act.put, List.setIfInBounds_toArray, List.set_cons_zero, List.set_cons_succ]
      refine wp_load_row (P := Tryz.prog) 33 (.tmp 1) rfl w.heap.size rfl 33 (tbA t a) (0, 0) _ (HXX.out _ hr.gb) Tryz.underlying33 rfl (by kernel_rfl) ?_
      exact hK.out _ _ (fun j => if j = 4 then true else ℓ j) ⟨x3, x5, tbV t a, x9, x11, x4, x6, x8, x10, x12, x13, x14, x2, (by simp only [Act.put, List.setIfInBounds_toArray, List.set_cons_zero, List.set_cons_succ]), hr, f0, f2, (show _ → _ from fun _ => rfl), f6, f8⟩ (if_pos rfl) (fun j hj => if_neg hj)
    · obtain rfl := Option.some.inj ho
      have g : ℓ 4 = true := hdep { on := 4, ground := Ground.data } (by simp) rfl
      clear hdep ho
      obtain rfl := f4.out g
      rw [if_pos (by rfl)]
      try simp only [Act.put, List.setIfInBounds_toArray, List.set_cons_zero, List.set_cons_succ]
      go_simp
      refine Calls.mono (xr2 t a _) ?_
      rintro e w9 ⟨⟨A9, rfl, hA9⟩, hb9⟩
      have hr9 := hr.below hb9
      exact hK.out _ _ (fun j => if j = 5 then true else ℓ j) ⟨x3, x5, tbV t a, x9, x11, x4, x6, .slice A9 4 4, x10, x12, x13, x14, x2, (by simp only [Act.put, List.setIfInBounds_toArray, List.set_cons_zero, List.set_cons_succ]), ⟨hr9.gb, hr9.r1, hr9.r3, (fun _ => ⟨A9, rfl, hA9⟩), hr9.r7, hr9.r9, hr9.r10, hr9.r11, hr9.r12⟩, f0, f2, (show _ → _ from fun _ => rfl), f6, f8⟩ (if_pos rfl) (fun j hj => if_neg hj)
    · replace ho : some ({ dst := some 9, op := .load 33 (.tmp 1), type := 33, pos := "l13_table.go:190", after := #[], guard := none } : Oper) = some o := ho
      obtain rfl := Option.some.inj ho
      clear hdep ho
      rw [if_pos (by rfl)]
      try simp only [Act.put, List.setIfInBounds_toArray, List.set_cons_zero, List.set_cons_succ]
      refine wp_load_row (P := Tryz.prog) 33 (.tmp 1) rfl w.heap.size rfl 33 (tbA t a) (0, 0) _ (HXX.out _ hr.gb) Tryz.underlying33 rfl (by kernel_rfl) ?_
      exact hK.out _ _ (fun j => if j = 6 then true else ℓ j) ⟨x3, x5, x7, tbV t a, x11, x4, x6, x8, x10, x12, x13, x14, x2, (by simp only [Act.put, List.setIfInBounds_toArray, List.set_cons_zero, List.set_cons_succ]), hr, f0, f2, f4, (show _ → _ from fun _ => rfl), f8⟩ (if_pos rfl) (fun j hj => if_neg hj)
    · obtain rfl := Option.some.inj ho
      have g : ℓ 6 = true := hdep { on := 6, ground := Ground.data } (by simp) rfl
      clear hdep ho
      obtain rfl := f6.out g
      rw [if_pos (by rfl)]
      try simp only [Act.put, List.setIfInBounds_toArray, List.set_cons_zero, List.set_cons_succ]
      go_simp
      refine Calls.mono (xr3 t a _) ?_
      rintro e w9 ⟨⟨A9, rfl, hA9⟩, hb9⟩
      have hr9 := hr.below hb9
      exact hK.out _ _ (fun j => if j = 7 then true else ℓ j) ⟨x3, x5, x7, tbV t a, x11, x4, x6, x8, .slice A9 5 5, x12, x13, x14, x2, (by simp only [Act.put, List.setIfInBounds_toArray, List.set_cons_zero, List.set_cons_succ]), ⟨hr9.gb, hr9.r1, hr9.r3, hr9.r5, (fun _ => ⟨A9, rfl, hA9⟩), hr9.r9, hr9.r10, hr9.r11, hr9.r12⟩, f0, f2, f4, (show _ → _ from fun _ => rfl), f8⟩ (if_pos rfl) (fun j hj => if_neg hj)
    · replace ho : some ({ dst := some 11, op := .load 33 (.tmp 1), type := 33, pos := "l13_table.go:190", after := #[], guard := none } : Oper) = some o := ho
      obtain rfl := Option.some.inj ho
      clear hdep ho
      rw [if_pos (by rfl)]
      try simp only [Act.put, List.setIfInBounds_toArray, List.set_cons_zero, List.set_cons_succ]
      refine wp_load_row (P := Tryz.prog) 33 (.tmp 1) rfl w.heap.size rfl 33 (tbA t a) (0, 0) _ (HXX.out _ hr.gb) Tryz.underlying33 rfl (by kernel_rfl) ?_
      exact hK.out _ _ (fun j => if j = 8 then true else ℓ j) ⟨x3, x5, x7, x9, tbV t a, x4, x6, x8, x10, x12, x13, x14, x2, (by simp only [Act.put, List.setIfInBounds_toArray, List.set_cons_zero, List.set_cons_succ]), hr, f0, f2, f4, f6, (show _ → _ from fun _ => rfl)⟩ (if_pos rfl) (fun j hj => if_neg hj)
    · obtain rfl := Option.some.inj ho
      have g : ℓ 8 = true := hdep { on := 8, ground := Ground.data } (by simp) rfl
      clear hdep ho
      obtain rfl := f8.out g
      rw [if_pos (by rfl)]
      try simp only [Act.put, List.setIfInBounds_toArray, List.set_cons_zero, List.set_cons_succ]
      go_simp
      refine Calls.mono (xr4 t a _) ?_
      rintro e w9 ⟨⟨A9, rfl, hA9⟩, hb9⟩
      have hr9 := hr.below hb9
      exact hK.out _ _ (fun j => if j = 9 then true else ℓ j) ⟨x3, x5, x7, x9, tbV t a, x4, x6, x8, x10, .slice A9 4 4, x13, x14, x2, (by simp only [Act.put, List.setIfInBounds_toArray, List.set_cons_zero, List.set_cons_succ]), ⟨hr9.gb, hr9.r1, hr9.r3, hr9.r5, hr9.r7, (fun _ => ⟨A9, rfl, hA9⟩), hr9.r10, hr9.r11, hr9.r12⟩, f0, f2, f4, f6, (show _ → _ from fun _ => rfl)⟩ (if_pos rfl) (fun j hj => if_neg hj)
    · obtain rfl := Option.some.inj ho
      have g1 : ℓ 1 = true := hdep { on := 1, ground := Ground.data } (by simp) rfl
      have g3 : ℓ 3 = true := hdep { on := 3, ground := Ground.data } (by simp) rfl
      have g5 : ℓ 5 = true := hdep { on := 5, ground := Ground.data } (by simp) rfl
      have g7 : ℓ 7 = true := hdep { on := 7, ground := Ground.data } (by simp) rfl
      have g9 : ℓ 9 = true := hdep { on := 9, ground := Ground.data } (by simp) rfl
      clear hdep ho
      obtain ⟨A1, rfl, h1⟩ := hr.r1 g1
      obtain ⟨A3, rfl, h3⟩ := hr.r3 g3
      obtain ⟨A5, rfl, h5⟩ := hr.r5 g5
      obtain ⟨A7, rfl, h7⟩ := hr.r7 g7
      obtain ⟨A9, rfl, h9⟩ := hr.r9 g9
      rw [if_pos (by rfl)]
      try simp only [Act.put, List.setIfInBounds_toArray, List.set_cons_zero, List.set_cons_succ]
      go_simp
      have hal : Below w'.heap.size w' (w'.alloc (.cells #[.slice A1 8 8, .slice A3 4 4, .slice A5 4 4, .slice A7 5 5, .slice A9 4 4] 102)) := (Below.refl _ _).alloc (Nat.le_refl _) _
      have hr9 := hr.below hal
      have h10 : Five (w'.alloc (.cells #[.slice A1 8 8, .slice A3 4 4, .slice A5 4 4, .slice A7 5 5, .slice A9 4 4] 102)) t a w'.heap.size (fun i => [A1, A3, A5, A7, A9].getD i none) Lf Sf := five_of (CellsAt.new w' [.slice A1 8 8, .slice A3 4 4, .slice A5 4 4, .slice A7 5 5, .slice A9 4 4] _ _ rfl) (h1.below hal) (h3.below hal) (h5.below hal) (h7.below hal) (h9.below hal)
      exact hK.out _ _ (fun j => if j = 10 then true else ℓ j) ⟨x3, x5, x7, x9, x11, .slice A1 8 8, .slice A3 4 4, .slice A5 4 4, .slice A7 5 5, .slice A9 4 4, .slice (some ⟨w'.heap.size, 0, none⟩) 5 5, x14, x2, (by simp only [Act.put, List.setIfInBounds_toArray, List.set_cons_zero, List.set_cons_succ]), ⟨hr9.gb, hr9.r1, hr9.r3, hr9.r5, hr9.r7, hr9.r9, (fun _ => ⟨_, _, rfl, h10⟩), hr9.r11, hr9.r12⟩, f0, f2, f4, f6, f8⟩ (if_pos rfl) (fun j hj => if_neg hj)
    · obtain rfl := Option.some.inj ho
      have g : ℓ 10 = true := hdep { on := 10, ground := Ground.data } (by simp) rfl
      clear hdep ho
      obtain ⟨C, AA, rfl, h5⟩ := hr.r10 g
      rw [if_pos (by rfl)]
      try simp only [Act.put, List.setIfInBounds_toArray, List.set_cons_zero, List.set_cons_succ]
      go_simp
      refine Calls.mono (concat5 C AA Lf Sf t a _ h5) ?_
      rintro e w9 ⟨⟨A9, c9, rfl, hA9⟩, hb9⟩
      have hr9 := hr.below hb9
      exact hK.out _ _ (fun j => if j = 11 then true else ℓ j) ⟨x3, x5, x7, x9, x11, x4, x6, x8, x10, x12, .slice (some ⟨C, 0, none⟩) 5 5, .slice A9 25 c9, x2, (by simp only [Act.put, List.setIfInBounds_toArray, List.set_cons_zero, List.set_cons_succ]), ⟨hr9.gb, hr9.r1, hr9.r3, hr9.r5, hr9.r7, hr9.r9, hr9.r10, (fun _ => ⟨A9, c9, rfl, hA9⟩), hr9.r12⟩, f0, f2, f4, f6, f8⟩ (if_pos rfl) (fun j hj => if_neg hj)
    · obtain rfl := Option.some.inj ho
      have g : ℓ 11 = true := hdep { on := 11, ground := Ground.data } (by simp) rfl
      clear hdep ho
      obtain ⟨A9, c9, rfl, hA9⟩ := hr.r11 g
      rw [if_pos (by rfl)]
      try simp only [Act.put, List.setIfInBounds_toArray, List.set_cons_zero, List.set_cons_succ]
      go_simp
      exact hK.out _ _ (fun j => if j = 12 then true else ℓ j) ⟨x3, x5, x7, x9, x11, x4, x6, x8, x10, x12, x13, .slice A9 25 c9, .slice A9 25 c9, (by simp only [Act.put, List.setIfInBounds_toArray, List.set_cons_zero, List.set_cons_succ]), ⟨hr.gb, hr.r1, hr.r3, hr.r5, hr.r7, hr.r9, hr.r10, hr.r11, (fun _ => ⟨A9, c9, rfl, hA9⟩)⟩, f0, f2, f4, f6, f8⟩ (if_pos rfl) (fun j hj => if_neg hj)
  · rintro a' w' ℓ ℓ' hℓ hI
    rw [← show ℓ = ℓ' from funext hℓ]
    exact hI
end Go.Proofs.YtlomcdgfcocmmaaGreatDoor
namespace Go.Proofs.YtlomcdgfcocmmaaGreatDoor
open Go.ChangeShapes Go.WideShapes Go.ChangeAt Go.RowKit Go.Deep Go.Joins
set_option linter.unusedVariables false

set_option maxRecDepth 40000 in
theorem rule_enters (j : Nat) (hj : j < 25) : ∀ args (v : World), (callFunc (rfid j) args).run Tryz.prog v = .ok (.enter (rfid j) args) v := by
  match j, hj with
  | 0, _ => exact enters_of Tryz.func113 (by kernel_rfl) rfl
  | 1, _ => exact enters_of Tryz.func115 (by kernel_rfl) rfl
  | 2, _ => exact enters_of Tryz.func117 (by kernel_rfl) rfl
  | 3, _ => exact enters_of Tryz.func119 (by kernel_rfl) rfl
  | 4, _ => exact enters_of Tryz.func121 (by kernel_rfl) rfl
  | 5, _ => exact enters_of Tryz.func123 (by kernel_rfl) rfl
  | 6, _ => exact enters_of Tryz.func124 (by kernel_rfl) rfl
  | 7, _ => exact enters_of Tryz.func125 (by kernel_rfl) rfl
  | 8, _ => exact enters_of Tryz.func127 (by kernel_rfl) rfl
  | 9, _ => exact enters_of Tryz.func128 (by kernel_rfl) rfl
  | 10, _ => exact enters_of Tryz.func132 (by kernel_rfl) rfl
  | 11, _ => exact enters_of Tryz.func135 (by kernel_rfl) rfl
  | 12, _ => exact enters_of Tryz.func138 (by kernel_rfl) rfl
  | 13, _ => exact enters_of Tryz.func140 (by kernel_rfl) rfl
  | 14, _ => exact enters_of Tryz.func146 (by kernel_rfl) rfl
  | 15, _ => exact enters_of Tryz.func149 (by kernel_rfl) rfl
  | 16, _ => exact enters_of Tryz.func152 (by kernel_rfl) rfl
  | 17, _ => exact enters_of Tryz.func153 (by kernel_rfl) rfl
  | 18, _ => exact enters_of Tryz.func154 (by kernel_rfl) rfl
  | 19, _ => exact enters_of Tryz.func155 (by kernel_rfl) rfl
  | 20, _ => exact enters_of Tryz.func159 (by kernel_rfl) rfl
  | 21, _ => exact enters_of Tryz.func161 (by kernel_rfl) rfl
  | 22, _ => exact enters_of Tryz.func162 (by kernel_rfl) rfl
  | 23, _ => exact enters_of Tryz.func165 (by kernel_rfl) rfl
  | 24, _ => exact enters_of Tryz.func167 (by kernel_rfl) rfl
  | j + 25, hj => exact absurd hj (by omega)
theorem rule_calls (j : Nat) (hj : j < 25) (t : Tb) (a : Ad) (B : Nat) (q : Bool) (X : World) (hu : Und X B t a) (hcp : a.pn ≤ a.pc) (hp : ∀ i, i < j → R t i) (hq : q = true ↔ R t j) :
    Calls Tryz.prog (rfid j) #[.pointer (some ⟨B, 0, none⟩)] X fun e w' => e = .returned (.bool q) ∧ Below X.heap.size X w' := by
  match j, hj with
  | 0, _ => exact clz0 t a B q X hu hp hq
  | 1, _ => exact cl1 t a B q X hu hp hq
  | 2, _ => exact cl2 t a B q X hu hp hq
  | 3, _ => exact cl3 t a B q X hu hp hq
  | 4, _ => exact cl4 t a B q X hu hp hq
  | 5, _ => exact cl5 t a B q X hu hp hq
  | 6, _ => exact cl6 t a B q X hu hp hq
  | 7, _ => exact cl7 t a B q X hu hp hq
  | 8, _ => exact cl8 t a B q X hu hp hq
  | 9, _ => exact cl9 t a B q X hu hp hq
  | 10, _ => exact cl10 t a B q X hu hp hcp hq
  | 11, _ => exact cl11 t a B q X hu hp hq
  | 12, _ => exact cl12 t a B q X hu hp hq
  | 13, _ => exact cl13 t a B q X hu hp hq
  | 14, _ => exact cl14 t a B q X hu hp hq
  | 15, _ => exact cl15 t a B q X hu hp hq
  | 16, _ => exact cl16 t a B q X hu hp hq
  | 17, _ => exact cl17 t a B q X hu hp hq
  | 18, _ => exact cl18 t a B q X hu hp hq
  | 19, _ => exact cl19 t a B q X hu hp hq
  | 20, _ => exact cl20 t a B q X hu hp hq
  | 21, _ => exact cl21 t a B q X hu hp hq
  | 22, _ => exact cl22 t a B q X hu hp hq
  | 23, _ => exact cl23 t a B q X hu hp hq
  | 24, _ => exact cl24 t a B q X hu hp hq
  | j + 25, hj => exact absurd hj (by omega)
theorem rnm_some (j : Nat) (hj : j < 25) : (rnm j).toList.isEmpty = false := by
  match j, hj with
  | 0, _ => exact Tx.empty_no _ (by decide)
  | 1, _ => exact Tx.empty_no _ (by decide)
  | 2, _ => exact Tx.empty_no _ (by decide)
  | 3, _ => exact Tx.empty_no _ (by decide)
  | 4, _ => exact Tx.empty_no _ (by decide)
  | 5, _ => exact Tx.empty_no _ (by decide)
  | 6, _ => exact Tx.empty_no _ (by decide)
  | 7, _ => exact Tx.empty_no _ (by decide)
  | 8, _ => exact Tx.empty_no _ (by decide)
  | 9, _ => exact Tx.empty_no _ (by decide)
  | 10, _ => exact Tx.empty_no _ (by decide)
  | 11, _ => exact Tx.empty_no _ (by decide)
  | 12, _ => exact Tx.empty_no _ (by decide)
  | 13, _ => exact Tx.empty_no _ (by decide)
  | 14, _ => exact Tx.empty_no _ (by decide)
  | 15, _ => exact Tx.empty_no _ (by decide)
  | 16, _ => exact Tx.empty_no _ (by decide)
  | 17, _ => exact Tx.empty_no _ (by decide)
  | 18, _ => exact Tx.empty_no _ (by decide)
  | 19, _ => exact Tx.empty_no _ (by decide)
  | 20, _ => exact Tx.empty_no _ (by decide)
  | 21, _ => exact Tx.empty_no _ (by decide)
  | 22, _ => exact Tx.empty_no _ (by decide)
  | 23, _ => exact Tx.empty_no _ (by decide)
  | 24, _ => exact Tx.empty_no _ (by decide)
  | j + 25, hj => exact absurd hj (by omega)
set_option maxRecDepth 40000 in
set_option maxHeartbeats 8000000 in
theorem broken_any (t : Tb) (a : Ad) (w : World) (hm : TM 0 w t a) (hw : TW t a) (hs : TS a) (he : TabE w) (hcp : a.pn ≤ a.pc) :
    Calls Tryz.prog 42 #[tbV t a] w fun e w' => (∃ s : ByteArray, e = .returned (.string s) ∧ ((Sd t ∧ s = ByteArray.empty) ∨ (¬ Sd t ∧ s.toList.isEmpty = false))) ∧ Below w.heap.size w w' := by
  have HU : Hid (∀ X, Below w.heap.size w X → TM 0 X t a ∧ TabE X) := fun X hX => ⟨hm.below hX, he.below hX⟩
  have HWS : Hid (TW t a ∧ TS a ∧ a.pn ≤ a.pc) := ⟨hw, hs, hcp⟩
  have HB0 : Hid (Below w.heap.size w (w.alloc (.cells (tbA t a) 33))) := (Below.refl _ _).alloc (Nat.le_refl _) _
  have HX0 : Hid ((w.alloc (.cells (tbA t a) 33)).heap[w.heap.size]? = some (.cells (tbA t a) 33 (0, 0))) := TBx.new w t a _ rfl
  clear hm hw hs he hcp
  go_enter Tryz.func42, Tryz.ntmps42
  go_wp2_with (first | (refine wpList_load_row rfl 33 (.tmp 1) rfl w.heap.size rfl 33 (tbA t a) (0, 0) _ HX0.out Tryz.underlying33 rfl (by kernel_rfl) ?_) | fail)
  refine Calls.mono (rules_any t a _) ?_
  rintro e w1 ⟨⟨A, c, rfl, hru⟩, hb1⟩
  have HB1 : Hid (Below w.heap.size w w1) := HB0.out.trans (hb1.mono HB0.out.size)
  have HRU : Hid (RuL w1 t a A 25 0) := hru
  clear hb1 hru HB0 HX0
  go_wp2
  go_loopw [8] (fun i wr => ∃ m : Nat, m ≤ 25 ∧ i = .int .i64 m ∧ Hid (Below w1.heap.size w1 wr ∧ ∀ j, j < m → R t j)) (fun i _ => 25 - (intOf i).toNat)
  case atStart => exact ⟨0, by omega, rfl, Below.refl _ _, fun i hi => absurd hi (by omega)⟩
  case round =>
    obtain ⟨m, hm, rfl, HR⟩ := hrel
    by_cases hmn : m < 25
    rotate_left
    · obtain rfl : m = 25 := by omega
      have HT : Hid (Sd t) := HR.out.2
      have HBF : Hid (Below w.heap.size w wr) := HB1.out.trans (HR.out.1.mono HB1.out.size)
      clear HR
      go_wp2
      go_ret
      exact ⟨⟨_, rfl, .inl ⟨HT.out, rfl⟩⟩, HBF.out⟩
    have hmn' : (m : Int) < 25 := by omega
    have hrl := HRU.out.below HR.out.1
    obtain ⟨X, hg, hra⟩ := hrl
    obtain ⟨b1, o1, hA, hbl1, p1⟩ := hg.at m hmn
    obtain ⟨B, hB, hX⟩ := hra m hmn
    rw [hX, Nat.zero_add] at p1
    have c0 : wr.cell? ⟨b1, o1 + m * 2, none⟩ = some (.string (rnm m)) := p1 0 _ rfl
    have c1 : wr.cell? ⟨b1, o1 + m * 2 + 1, none⟩ = some (.func (.func (rfid m)) #[] #[.pointer (some ⟨B, 0, none⟩)]) := p1 1 _ rfl
    have HBF : Hid (Below w.heap.size w wr) := HB1.out.trans (HR.out.1.mono HB1.out.size)
    obtain ⟨qm, hqm⟩ := told (R t m)
    have HQM : Hid (qm = true ↔ R t m) := hqm
    have hen := rule_enters m hmn
    have HRC : Hid (∀ Y, Below wr.heap.size wr Y → Calls Tryz.prog (rfid m) #[.pointer (some ⟨B, 0, none⟩)] Y fun e w' => e = .returned (.bool qm) ∧ Below Y.heap.size Y w') := fun Y hY =>
      rule_calls m hmn t a B qm Y ⟨hB.below hY, (HU.out Y (HBF.out.trans (hY.mono HBF.out.size))).1, HWS.out.1, HWS.out.2.1, (HU.out Y (HBF.out.trans (hY.mono HBF.out.size))).2⟩ HWS.out.2.2 HR.out.2 hqm
    have HRS : Hid (R t m → ∀ j, j < m + 1 → R t j) := fun h j hj => by
      by_cases e : j = m
      · subst e; exact h
      · exact HR.out.2 j (by omega)
    have HRB : Hid (Below w1.heap.size w1 wr) := HR.out.1
    have hne := rnm_some m hmn
    have HNE : Hid ((rnm m).toList.isEmpty = false) := hne
    have HNS : Hid (¬ R t m → ¬ Sd t) := fun h g => h (g m hmn)
    clear hg hra hX p1 hbl1 hqm hne HR hB
    generalize rfid m = fid at c1 hen HRC
    generalize rnm m = sm at c0 HNE
    subst hA
    have hal : Below wr.heap.size wr (wr.alloc (.cells #[.string sm, .func (.func fid) #[] #[.pointer (some ⟨B, 0, none⟩)]] 105)) := (Below.refl _ _).alloc (Nat.le_refl _) _
    have HAL : Hid (Below wr.heap.size wr (wr.alloc (.cells #[.string sm, .func (.func fid) #[] #[.pointer (some ⟨B, 0, none⟩)]] 105)) ∧ CellsAt (wr.alloc (.cells #[.string sm, .func (.func fid) #[] #[.pointer (some ⟨B, 0, none⟩)]] 105)) wr.heap.size 0 [.string sm, .func (.func fid) #[] #[.pointer (some ⟨B, 0, none⟩)]]) := ⟨hal, CellsAt.new wr [.string sm, .func (.func fid) #[] #[.pointer (some ⟨B, 0, none⟩)]] 105 _ rfl⟩
    clear hal
    go_wp2_with fail
    refine Calls.mono (HRC.out _ HAL.out.1) ?_
    rintro e w2 ⟨rfl, hb2⟩
    have HB2 : Hid (Below w1.heap.size w1 w2 ∧ Below w.heap.size w w2) := ⟨HRB.out.trans ((HAL.out.1.trans (hb2.mono HAL.out.1.size)).mono HRB.out.size), HBF.out.trans ((HAL.out.1.trans (hb2.mono HAL.out.1.size)).mono HBF.out.size)⟩
    have e0 : w2.cell? ⟨wr.heap.size, 0, none⟩ = some (.string sm) := cell0 (HAL.out.2.below hb2) 0 rfl
    clear hb2 HAL c0 c1 HRC hen HRB HBF
    cases qm
    · have HT : Hid (¬ Sd t) := HNS.out (fun h => by have := HQM.out.2 h; cases this)
      go_wp2
      go_ret
      exact ⟨⟨_, rfl, .inr ⟨HT.out, HNE.out⟩⟩, HB2.out.2⟩
    · have HT : Hid _ := HRS.out (HQM.out.1 (by trivial))
      go_wp2
      go_roundw
      case rel => exact ⟨m + 1, by omega, by go_num, HB2.out.1, HT.out⟩
      case measure => simp [intOf]; omega
set_option maxRecDepth 40000 in
set_option maxHeartbeats 4000000 in
theorem impl_sound (t : Tb) (a : Ad) (q : Bool) (w : World) (hm : TM 0 w t a) (hw : TW t a) (hs : TS a) (he : TabE w) (hcp : a.pn ≤ a.pc) (hq : q = true ↔ Sd t) :
    Calls Tryz.prog 13 #[tbV t a] w fun e w' => e = .returned (.bool q) ∧ Below w.heap.size w w' := by
  have HB0 : Hid (Below w.heap.size w (w.alloc (.cells (tbA t a) 33))) := (Below.refl _ _).alloc (Nat.le_refl _) _
  have HX0 : Hid ((w.alloc (.cells (tbA t a) 33)).heap[w.heap.size]? = some (.cells (tbA t a) 33 (0, 0))) := TBx.new w t a _ rfl
  have HBR : Hid (Calls Tryz.prog 42 #[tbV t a] (w.alloc (.cells (tbA t a) 33)) fun e w' => (∃ s : ByteArray, e = .returned (.string s) ∧ ((Sd t ∧ s = ByteArray.empty) ∨ (¬ Sd t ∧ s.toList.isEmpty = false))) ∧ Below (w.alloc (.cells (tbA t a) 33)).heap.size (w.alloc (.cells (tbA t a) 33)) w') := broken_any t a _ (hm.below HB0.out) hw hs (he.below HB0.out) hcp
  have HQ : Hid (q = true ↔ Sd t) := hq
  clear hm hw hs he hcp hq
  go_enter Tryz.func13, Tryz.ntmps13
  go_wp2_with (first | (refine wpList_load_row rfl 33 (.tmp 1) rfl w.heap.size rfl 33 (tbA t a) (0, 0) _ HX0.out Tryz.underlying33 rfl (by kernel_rfl) ?_) | fail)
  refine Calls.mono HBR.out ?_
  rintro e w1 ⟨⟨s, rfl, hsd⟩, hb1⟩
  have HB1 : Hid (Below w.heap.size w w1) := HB0.out.trans (hb1.mono HB0.out.size)
  clear hb1 HB0 HX0 HBR
  rcases hsd with ⟨h, rfl⟩ | ⟨h, hne⟩
  · have HT : Hid (q = true) := HQ.out.2 h
    clear h HQ
    go_wp2
    go_ret
    exact ⟨ret_bool HT.out.symm, HB1.out⟩
  · have HT : Hid (q = false) := not_true HQ.out h
    clear h HQ
    go_wp2
    go_ret
    exact ⟨ret_bool HT.out.symm, HB1.out⟩
end Go.Proofs.YtlomcdgfcocmmaaGreatDoor
