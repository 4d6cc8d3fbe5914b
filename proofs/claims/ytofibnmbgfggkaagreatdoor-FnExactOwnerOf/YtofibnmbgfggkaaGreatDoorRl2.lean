
/-
  The lists of rules that the program lays, and all of them in one list. No conditions.
-/
import Derived.Test.YtofibnmbgfggkaaGreatDoorBas
import Derived.Test.YtofibnmbgfggkaaGreatDoorRl1
import Derived.Test.YtofibnmbgfggkaaGreatDoorRgi
import Derived.Test.YtofibnmbgfggkaaGreatDoorLrw
namespace Go.Proofs.YtofibnmbgfggkaaGreatDoor
open Go.ChangeShapes Go.WideShapes Go.ChangeAt Go.RowKit Go.Deep Go.Joins
set_option linter.unusedVariables false

theorem gseg_lit {w : World} {b n : Nat} {L : List Value} {X : Nat → List Value} (hc : CellsAt w b 0 L) (hlt : b < w.heap.size) (h : ∀ i, i < n → L[i * 2]? = (X i)[0]? ∧ L[i * 2 + 1]? = (X i)[1]?) (hl : ∀ i, i < n → (X i).length = 2) : GSeg 2 w (some ⟨b, 0, none⟩) n X := fun _ => by
  refine ⟨b, 0, rfl, hlt, fun i hi j v hj => ?_⟩
  have hj2 : j < 2 := by
    have := (List.getElem?_eq_some_iff.1 hj).1
    rw [hl i hi] at this
    exact this
  rw [Nat.zero_add]
  match j, hj2 with
  | 0, _ => rw [Nat.add_zero]; exact cell0 hc _ ((h i hi).1.trans hj)
  | 1, _ => exact cell0 hc _ ((h i hi).2.trans hj)
set_option maxRecDepth 40000 in
set_option maxHeartbeats 4000000 in
theorem xr0 (t : Tb) (a : Ad) (w : World) : Calls Tryz.prog 76 #[tbV t a] w fun e w' => (∃ A, e = .returned (.slice A 8 8) ∧ RuL w' t a A 8 0) ∧ Below w.heap.size w w' := by
  have HB : Hid (Below w.heap.size w ((w.alloc (.cells (tbA t a) 40)).alloc (.cells #[.string (⟨#[109, 101, 109, 111, 114, 121]⟩), .func (.func 91) #[] #[.pointer (some ⟨w.heap.size, 0, none⟩)], .string (⟨#[115, 104, 97, 112, 101, 32, 111, 102, 32, 116, 104, 101, 32, 99, 97, 99, 104, 101]⟩), .func (.func 92) #[] #[.pointer (some ⟨w.heap.size, 0, none⟩)], .string (⟨#[115, 105, 122, 101, 32, 111, 102, 32, 116, 104, 101, 32, 116, 97, 98, 108, 101, 32, 111, 102, 32, 112, 97, 103, 101, 115]⟩), .func (.func 94) #[] #[.pointer (some ⟨w.heap.size, 0, none⟩)], .string (⟨#[99, 111, 115, 116, 115]⟩), .func (.func 96) #[] #[.pointer (some ⟨w.heap.size, 0, none⟩)], .string (⟨#[112, 97, 100]⟩), .func (.func 98) #[] #[.pointer (some ⟨w.heap.size, 0, none⟩)], .string (⟨#[103, 117, 97, 114, 100]⟩), .func (.func 100) #[] #[.pointer (some ⟨w.heap.size, 0, none⟩)], .string (⟨#[109, 97, 106, 111, 114]⟩), .func (.func 101) #[] #[.pointer (some ⟨w.heap.size, 0, none⟩)], .string (⟨#[103, 117, 97, 114, 100, 32, 99, 111, 118, 101, 114, 115, 32, 97, 32, 115, 116, 101, 112]⟩), .func (.func 102) #[] #[.pointer (some ⟨w.heap.size, 0, none⟩)]] 103))) := ((Below.refl _ _).alloc (Nat.le_refl _) _).alloc (by simp) _
  have HR : Hid (RuL ((w.alloc (.cells (tbA t a) 40)).alloc (.cells #[.string (⟨#[109, 101, 109, 111, 114, 121]⟩), .func (.func 91) #[] #[.pointer (some ⟨w.heap.size, 0, none⟩)], .string (⟨#[115, 104, 97, 112, 101, 32, 111, 102, 32, 116, 104, 101, 32, 99, 97, 99, 104, 101]⟩), .func (.func 92) #[] #[.pointer (some ⟨w.heap.size, 0, none⟩)], .string (⟨#[115, 105, 122, 101, 32, 111, 102, 32, 116, 104, 101, 32, 116, 97, 98, 108, 101, 32, 111, 102, 32, 112, 97, 103, 101, 115]⟩), .func (.func 94) #[] #[.pointer (some ⟨w.heap.size, 0, none⟩)], .string (⟨#[99, 111, 115, 116, 115]⟩), .func (.func 96) #[] #[.pointer (some ⟨w.heap.size, 0, none⟩)], .string (⟨#[112, 97, 100]⟩), .func (.func 98) #[] #[.pointer (some ⟨w.heap.size, 0, none⟩)], .string (⟨#[103, 117, 97, 114, 100]⟩), .func (.func 100) #[] #[.pointer (some ⟨w.heap.size, 0, none⟩)], .string (⟨#[109, 97, 106, 111, 114]⟩), .func (.func 101) #[] #[.pointer (some ⟨w.heap.size, 0, none⟩)], .string (⟨#[103, 117, 97, 114, 100, 32, 99, 111, 118, 101, 114, 115, 32, 97, 32, 115, 116, 101, 112]⟩), .func (.func 102) #[] #[.pointer (some ⟨w.heap.size, 0, none⟩)]] 103)) t a (some ⟨w.heap.size + 1, 0, none⟩) 8 0) :=
    ⟨fun i => [.string (rnm (0 + i)), .func (.func (rfid (0 + i))) #[] #[.pointer (some ⟨w.heap.size, 0, none⟩)]],
      gseg_lit (CellsAt.new _ [.string (⟨#[109, 101, 109, 111, 114, 121]⟩), .func (.func 91) #[] #[.pointer (some ⟨w.heap.size, 0, none⟩)], .string (⟨#[115, 104, 97, 112, 101, 32, 111, 102, 32, 116, 104, 101, 32, 99, 97, 99, 104, 101]⟩), .func (.func 92) #[] #[.pointer (some ⟨w.heap.size, 0, none⟩)], .string (⟨#[115, 105, 122, 101, 32, 111, 102, 32, 116, 104, 101, 32, 116, 97, 98, 108, 101, 32, 111, 102, 32, 112, 97, 103, 101, 115]⟩), .func (.func 94) #[] #[.pointer (some ⟨w.heap.size, 0, none⟩)], .string (⟨#[99, 111, 115, 116, 115]⟩), .func (.func 96) #[] #[.pointer (some ⟨w.heap.size, 0, none⟩)], .string (⟨#[112, 97, 100]⟩), .func (.func 98) #[] #[.pointer (some ⟨w.heap.size, 0, none⟩)], .string (⟨#[103, 117, 97, 114, 100]⟩), .func (.func 100) #[] #[.pointer (some ⟨w.heap.size, 0, none⟩)], .string (⟨#[109, 97, 106, 111, 114]⟩), .func (.func 101) #[] #[.pointer (some ⟨w.heap.size, 0, none⟩)], .string (⟨#[103, 117, 97, 114, 100, 32, 99, 111, 118, 101, 114, 115, 32, 97, 32, 115, 116, 101, 112]⟩), .func (.func 102) #[] #[.pointer (some ⟨w.heap.size, 0, none⟩)]] 103 _ (by simp)) (by simp) (fun i hi => by
        match i, hi with
        | 0, _ => exact ⟨rfl, rfl⟩
        | 1, _ => exact ⟨rfl, rfl⟩
        | 2, _ => exact ⟨rfl, rfl⟩
        | 3, _ => exact ⟨rfl, rfl⟩
        | 4, _ => exact ⟨rfl, rfl⟩
        | 5, _ => exact ⟨rfl, rfl⟩
        | 6, _ => exact ⟨rfl, rfl⟩
        | 7, _ => exact ⟨rfl, rfl⟩
        | i + 8, hi => exact absurd hi (by omega)) (fun _ _ => rfl),
      fun i hi => ⟨w.heap.size, (TBx.new w t a _ rfl).below ((Below.refl _ _).alloc (Nat.le_refl _) _), rfl⟩⟩
  go_enter Tryz.func76, Tryz.ntmps76
  go_wp2
  go_ret
  exact ⟨⟨_, rfl, HR.out⟩, HB.out⟩
set_option maxRecDepth 40000 in
set_option maxHeartbeats 4000000 in
theorem xr1 (t : Tb) (a : Ad) (w : World) : Calls Tryz.prog 77 #[tbV t a] w fun e w' => (∃ A, e = .returned (.slice A 4 4) ∧ RuL w' t a A 4 8) ∧ Below w.heap.size w w' := by
  have HB : Hid (Below w.heap.size w ((w.alloc (.cells (tbA t a) 40)).alloc (.cells #[.string (⟨#[110, 117, 109, 98, 101, 114, 32, 111, 102, 32, 112, 97, 114, 116, 105, 116, 105, 111, 110, 115]⟩), .func (.func 104) #[] #[.pointer (some ⟨w.heap.size, 0, none⟩)], .string (⟨#[110, 97, 109, 101, 115]⟩), .func (.func 106) #[] #[.pointer (some ⟨w.heap.size, 0, none⟩)], .string (⟨#[110, 111, 32, 110, 97, 109, 101, 32, 116, 119, 105, 99, 101]⟩), .func (.func 110) #[] #[.pointer (some ⟨w.heap.size, 0, none⟩)], .string (⟨#[112, 111, 108, 105, 99, 105, 101, 115]⟩), .func (.func 113) #[] #[.pointer (some ⟨w.heap.size, 0, none⟩)]] 103))) := ((Below.refl _ _).alloc (Nat.le_refl _) _).alloc (by simp) _
  have HR : Hid (RuL ((w.alloc (.cells (tbA t a) 40)).alloc (.cells #[.string (⟨#[110, 117, 109, 98, 101, 114, 32, 111, 102, 32, 112, 97, 114, 116, 105, 116, 105, 111, 110, 115]⟩), .func (.func 104) #[] #[.pointer (some ⟨w.heap.size, 0, none⟩)], .string (⟨#[110, 97, 109, 101, 115]⟩), .func (.func 106) #[] #[.pointer (some ⟨w.heap.size, 0, none⟩)], .string (⟨#[110, 111, 32, 110, 97, 109, 101, 32, 116, 119, 105, 99, 101]⟩), .func (.func 110) #[] #[.pointer (some ⟨w.heap.size, 0, none⟩)], .string (⟨#[112, 111, 108, 105, 99, 105, 101, 115]⟩), .func (.func 113) #[] #[.pointer (some ⟨w.heap.size, 0, none⟩)]] 103)) t a (some ⟨w.heap.size + 1, 0, none⟩) 4 8) :=
    ⟨fun i => [.string (rnm (8 + i)), .func (.func (rfid (8 + i))) #[] #[.pointer (some ⟨w.heap.size, 0, none⟩)]],
      gseg_lit (CellsAt.new _ [.string (⟨#[110, 117, 109, 98, 101, 114, 32, 111, 102, 32, 112, 97, 114, 116, 105, 116, 105, 111, 110, 115]⟩), .func (.func 104) #[] #[.pointer (some ⟨w.heap.size, 0, none⟩)], .string (⟨#[110, 97, 109, 101, 115]⟩), .func (.func 106) #[] #[.pointer (some ⟨w.heap.size, 0, none⟩)], .string (⟨#[110, 111, 32, 110, 97, 109, 101, 32, 116, 119, 105, 99, 101]⟩), .func (.func 110) #[] #[.pointer (some ⟨w.heap.size, 0, none⟩)], .string (⟨#[112, 111, 108, 105, 99, 105, 101, 115]⟩), .func (.func 113) #[] #[.pointer (some ⟨w.heap.size, 0, none⟩)]] 103 _ (by simp)) (by simp) (fun i hi => by
        match i, hi with
        | 0, _ => exact ⟨rfl, rfl⟩
        | 1, _ => exact ⟨rfl, rfl⟩
        | 2, _ => exact ⟨rfl, rfl⟩
        | 3, _ => exact ⟨rfl, rfl⟩
        | i + 4, hi => exact absurd hi (by omega)) (fun _ _ => rfl),
      fun i hi => ⟨w.heap.size, (TBx.new w t a _ rfl).below ((Below.refl _ _).alloc (Nat.le_refl _) _), rfl⟩⟩
  go_enter Tryz.func77, Tryz.ntmps77
  go_wp2
  go_ret
  exact ⟨⟨_, rfl, HR.out⟩, HB.out⟩
set_option maxRecDepth 40000 in
set_option maxHeartbeats 4000000 in
theorem xr2 (t : Tb) (a : Ad) (w : World) : Calls Tryz.prog 78 #[tbV t a] w fun e w' => (∃ A, e = .returned (.slice A 4 4) ∧ RuL w' t a A 4 12) ∧ Below w.heap.size w w' := by
  have HB : Hid (Below w.heap.size w ((w.alloc (.cells (tbA t a) 40)).alloc (.cells #[.string (⟨#[110, 117, 109, 98, 101, 114, 32, 111, 102, 32, 119, 105, 110, 100, 111, 119, 115]⟩), .func (.func 116) #[] #[.pointer (some ⟨w.heap.size, 0, none⟩)], .string (⟨#[119, 105, 110, 100, 111, 119, 115, 32, 119, 105, 116, 104, 105, 110, 32, 109, 101, 109, 111, 114, 121]⟩), .func (.func 118) #[] #[.pointer (some ⟨w.heap.size, 0, none⟩)], .string (⟨#[119, 105, 110, 100, 111, 119, 115, 32, 97, 112, 97, 114, 116]⟩), .func (.func 123) #[] #[.pointer (some ⟨w.heap.size, 0, none⟩)], .string (⟨#[101, 110, 116, 114, 105, 101, 115]⟩), .func (.func 126) #[] #[.pointer (some ⟨w.heap.size, 0, none⟩)]] 103))) := ((Below.refl _ _).alloc (Nat.le_refl _) _).alloc (by simp) _
  have HR : Hid (RuL ((w.alloc (.cells (tbA t a) 40)).alloc (.cells #[.string (⟨#[110, 117, 109, 98, 101, 114, 32, 111, 102, 32, 119, 105, 110, 100, 111, 119, 115]⟩), .func (.func 116) #[] #[.pointer (some ⟨w.heap.size, 0, none⟩)], .string (⟨#[119, 105, 110, 100, 111, 119, 115, 32, 119, 105, 116, 104, 105, 110, 32, 109, 101, 109, 111, 114, 121]⟩), .func (.func 118) #[] #[.pointer (some ⟨w.heap.size, 0, none⟩)], .string (⟨#[119, 105, 110, 100, 111, 119, 115, 32, 97, 112, 97, 114, 116]⟩), .func (.func 123) #[] #[.pointer (some ⟨w.heap.size, 0, none⟩)], .string (⟨#[101, 110, 116, 114, 105, 101, 115]⟩), .func (.func 126) #[] #[.pointer (some ⟨w.heap.size, 0, none⟩)]] 103)) t a (some ⟨w.heap.size + 1, 0, none⟩) 4 12) :=
    ⟨fun i => [.string (rnm (12 + i)), .func (.func (rfid (12 + i))) #[] #[.pointer (some ⟨w.heap.size, 0, none⟩)]],
      gseg_lit (CellsAt.new _ [.string (⟨#[110, 117, 109, 98, 101, 114, 32, 111, 102, 32, 119, 105, 110, 100, 111, 119, 115]⟩), .func (.func 116) #[] #[.pointer (some ⟨w.heap.size, 0, none⟩)], .string (⟨#[119, 105, 110, 100, 111, 119, 115, 32, 119, 105, 116, 104, 105, 110, 32, 109, 101, 109, 111, 114, 121]⟩), .func (.func 118) #[] #[.pointer (some ⟨w.heap.size, 0, none⟩)], .string (⟨#[119, 105, 110, 100, 111, 119, 115, 32, 97, 112, 97, 114, 116]⟩), .func (.func 123) #[] #[.pointer (some ⟨w.heap.size, 0, none⟩)], .string (⟨#[101, 110, 116, 114, 105, 101, 115]⟩), .func (.func 126) #[] #[.pointer (some ⟨w.heap.size, 0, none⟩)]] 103 _ (by simp)) (by simp) (fun i hi => by
        match i, hi with
        | 0, _ => exact ⟨rfl, rfl⟩
        | 1, _ => exact ⟨rfl, rfl⟩
        | 2, _ => exact ⟨rfl, rfl⟩
        | 3, _ => exact ⟨rfl, rfl⟩
        | i + 4, hi => exact absurd hi (by omega)) (fun _ _ => rfl),
      fun i hi => ⟨w.heap.size, (TBx.new w t a _ rfl).below ((Below.refl _ _).alloc (Nat.le_refl _) _), rfl⟩⟩
  go_enter Tryz.func78, Tryz.ntmps78
  go_wp2
  go_ret
  exact ⟨⟨_, rfl, HR.out⟩, HB.out⟩
set_option maxRecDepth 40000 in
set_option maxHeartbeats 4000000 in
theorem xr3 (t : Tb) (a : Ad) (w : World) : Calls Tryz.prog 79 #[tbV t a] w fun e w' => (∃ A, e = .returned (.slice A 5 5) ∧ RuL w' t a A 5 16) ∧ Below w.heap.size w w' := by
  have HB : Hid (Below w.heap.size w ((w.alloc (.cells (tbA t a) 40)).alloc (.cells #[.string (⟨#[110, 117, 109, 98, 101, 114, 32, 111, 102, 32, 100, 101, 118, 105, 99, 101, 115]⟩), .func (.func 129) #[] #[.pointer (some ⟨w.heap.size, 0, none⟩)], .string (⟨#[111, 119, 110, 101, 114, 115]⟩), .func (.func 130) #[] #[.pointer (some ⟨w.heap.size, 0, none⟩)], .string (⟨#[110, 117, 109, 98, 101, 114, 32, 111, 102, 32, 99, 104, 97, 110, 110, 101, 108, 115]⟩), .func (.func 133) #[] #[.pointer (some ⟨w.heap.size, 0, none⟩)], .string (⟨#[99, 104, 97, 110, 110, 101, 108, 115]⟩), .func (.func 134) #[] #[.pointer (some ⟨w.heap.size, 0, none⟩)], .string (⟨#[112, 97, 100, 32, 99, 111, 118, 101, 114, 115, 32, 97, 32, 115, 119, 105, 116, 99, 104]⟩), .func (.func 138) #[] #[.pointer (some ⟨w.heap.size, 0, none⟩)]] 103))) := ((Below.refl _ _).alloc (Nat.le_refl _) _).alloc (by simp) _
  have HR : Hid (RuL ((w.alloc (.cells (tbA t a) 40)).alloc (.cells #[.string (⟨#[110, 117, 109, 98, 101, 114, 32, 111, 102, 32, 100, 101, 118, 105, 99, 101, 115]⟩), .func (.func 129) #[] #[.pointer (some ⟨w.heap.size, 0, none⟩)], .string (⟨#[111, 119, 110, 101, 114, 115]⟩), .func (.func 130) #[] #[.pointer (some ⟨w.heap.size, 0, none⟩)], .string (⟨#[110, 117, 109, 98, 101, 114, 32, 111, 102, 32, 99, 104, 97, 110, 110, 101, 108, 115]⟩), .func (.func 133) #[] #[.pointer (some ⟨w.heap.size, 0, none⟩)], .string (⟨#[99, 104, 97, 110, 110, 101, 108, 115]⟩), .func (.func 134) #[] #[.pointer (some ⟨w.heap.size, 0, none⟩)], .string (⟨#[112, 97, 100, 32, 99, 111, 118, 101, 114, 115, 32, 97, 32, 115, 119, 105, 116, 99, 104]⟩), .func (.func 138) #[] #[.pointer (some ⟨w.heap.size, 0, none⟩)]] 103)) t a (some ⟨w.heap.size + 1, 0, none⟩) 5 16) :=
    ⟨fun i => [.string (rnm (16 + i)), .func (.func (rfid (16 + i))) #[] #[.pointer (some ⟨w.heap.size, 0, none⟩)]],
      gseg_lit (CellsAt.new _ [.string (⟨#[110, 117, 109, 98, 101, 114, 32, 111, 102, 32, 100, 101, 118, 105, 99, 101, 115]⟩), .func (.func 129) #[] #[.pointer (some ⟨w.heap.size, 0, none⟩)], .string (⟨#[111, 119, 110, 101, 114, 115]⟩), .func (.func 130) #[] #[.pointer (some ⟨w.heap.size, 0, none⟩)], .string (⟨#[110, 117, 109, 98, 101, 114, 32, 111, 102, 32, 99, 104, 97, 110, 110, 101, 108, 115]⟩), .func (.func 133) #[] #[.pointer (some ⟨w.heap.size, 0, none⟩)], .string (⟨#[99, 104, 97, 110, 110, 101, 108, 115]⟩), .func (.func 134) #[] #[.pointer (some ⟨w.heap.size, 0, none⟩)], .string (⟨#[112, 97, 100, 32, 99, 111, 118, 101, 114, 115, 32, 97, 32, 115, 119, 105, 116, 99, 104]⟩), .func (.func 138) #[] #[.pointer (some ⟨w.heap.size, 0, none⟩)]] 103 _ (by simp)) (by simp) (fun i hi => by
        match i, hi with
        | 0, _ => exact ⟨rfl, rfl⟩
        | 1, _ => exact ⟨rfl, rfl⟩
        | 2, _ => exact ⟨rfl, rfl⟩
        | 3, _ => exact ⟨rfl, rfl⟩
        | 4, _ => exact ⟨rfl, rfl⟩
        | i + 5, hi => exact absurd hi (by omega)) (fun _ _ => rfl),
      fun i hi => ⟨w.heap.size, (TBx.new w t a _ rfl).below ((Below.refl _ _).alloc (Nat.le_refl _) _), rfl⟩⟩
  go_enter Tryz.func79, Tryz.ntmps79
  go_wp2
  go_ret
  exact ⟨⟨_, rfl, HR.out⟩, HB.out⟩
set_option maxRecDepth 40000 in
set_option maxHeartbeats 4000000 in
theorem xr4 (t : Tb) (a : Ad) (w : World) : Calls Tryz.prog 80 #[tbV t a] w fun e w' => (∃ A, e = .returned (.slice A 4 4) ∧ RuL w' t a A 4 21) ∧ Below w.heap.size w w' := by
  have HB : Hid (Below w.heap.size w ((w.alloc (.cells (tbA t a) 40)).alloc (.cells #[.string (⟨#[110, 117, 109, 98, 101, 114, 32, 111, 102, 32, 115, 108, 111, 116, 115]⟩), .func (.func 140) #[] #[.pointer (some ⟨w.heap.size, 0, none⟩)], .string (⟨#[104, 111, 108, 100, 101, 114, 115]⟩), .func (.func 141) #[] #[.pointer (some ⟨w.heap.size, 0, none⟩)], .string (⟨#[115, 108, 111, 116, 115, 32, 108, 111, 110, 103, 101, 114, 32, 116, 104, 97, 110, 32, 119, 104, 97, 116, 32, 105, 115, 32, 108, 111, 115, 116]⟩), .func (.func 144) #[] #[.pointer (some ⟨w.heap.size, 0, none⟩)], .string (⟨#[115, 108, 111, 116, 115, 32, 105, 110, 32, 111, 114, 100, 101, 114]⟩), .func (.func 146) #[] #[.pointer (some ⟨w.heap.size, 0, none⟩)]] 103))) := ((Below.refl _ _).alloc (Nat.le_refl _) _).alloc (by simp) _
  have HR : Hid (RuL ((w.alloc (.cells (tbA t a) 40)).alloc (.cells #[.string (⟨#[110, 117, 109, 98, 101, 114, 32, 111, 102, 32, 115, 108, 111, 116, 115]⟩), .func (.func 140) #[] #[.pointer (some ⟨w.heap.size, 0, none⟩)], .string (⟨#[104, 111, 108, 100, 101, 114, 115]⟩), .func (.func 141) #[] #[.pointer (some ⟨w.heap.size, 0, none⟩)], .string (⟨#[115, 108, 111, 116, 115, 32, 108, 111, 110, 103, 101, 114, 32, 116, 104, 97, 110, 32, 119, 104, 97, 116, 32, 105, 115, 32, 108, 111, 115, 116]⟩), .func (.func 144) #[] #[.pointer (some ⟨w.heap.size, 0, none⟩)], .string (⟨#[115, 108, 111, 116, 115, 32, 105, 110, 32, 111, 114, 100, 101, 114]⟩), .func (.func 146) #[] #[.pointer (some ⟨w.heap.size, 0, none⟩)]] 103)) t a (some ⟨w.heap.size + 1, 0, none⟩) 4 21) :=
    ⟨fun i => [.string (rnm (21 + i)), .func (.func (rfid (21 + i))) #[] #[.pointer (some ⟨w.heap.size, 0, none⟩)]],
      gseg_lit (CellsAt.new _ [.string (⟨#[110, 117, 109, 98, 101, 114, 32, 111, 102, 32, 115, 108, 111, 116, 115]⟩), .func (.func 140) #[] #[.pointer (some ⟨w.heap.size, 0, none⟩)], .string (⟨#[104, 111, 108, 100, 101, 114, 115]⟩), .func (.func 141) #[] #[.pointer (some ⟨w.heap.size, 0, none⟩)], .string (⟨#[115, 108, 111, 116, 115, 32, 108, 111, 110, 103, 101, 114, 32, 116, 104, 97, 110, 32, 119, 104, 97, 116, 32, 105, 115, 32, 108, 111, 115, 116]⟩), .func (.func 144) #[] #[.pointer (some ⟨w.heap.size, 0, none⟩)], .string (⟨#[115, 108, 111, 116, 115, 32, 105, 110, 32, 111, 114, 100, 101, 114]⟩), .func (.func 146) #[] #[.pointer (some ⟨w.heap.size, 0, none⟩)]] 103 _ (by simp)) (by simp) (fun i hi => by
        match i, hi with
        | 0, _ => exact ⟨rfl, rfl⟩
        | 1, _ => exact ⟨rfl, rfl⟩
        | 2, _ => exact ⟨rfl, rfl⟩
        | 3, _ => exact ⟨rfl, rfl⟩
        | i + 4, hi => exact absurd hi (by omega)) (fun _ _ => rfl),
      fun i hi => ⟨w.heap.size, (TBx.new w t a _ rfl).below ((Below.refl _ _).alloc (Nat.le_refl _) _), rfl⟩⟩
  go_enter Tryz.func80, Tryz.ntmps80
  go_wp2
  go_ret
  exact ⟨⟨_, rfl, HR.out⟩, HB.out⟩
def Lf (i : Nat) : Nat := [8, 4, 4, 5, 4].getD i 0
def Sf (i : Nat) : Nat := [0, 8, 12, 16, 21, 25].getD i 0
/-- What the region that joins the lists keeps, whatever order it draws. -/
structure RI (t : Tb) (a : Ad) (W0 w : World) (b1 b3 b5 b7 b9 b10 b11 b12 : Bool) (x4 x6 x8 x10 x12 x13 x14 x2 : Value) : Prop where
  gb : Below W0.heap.size W0 w
  r1 : b1 = true → ∃ A, x4 = .slice A 8 8 ∧ RuL w t a A 8 0
  r3 : b3 = true → ∃ A, x6 = .slice A 4 4 ∧ RuL w t a A 4 8
  r5 : b5 = true → ∃ A, x8 = .slice A 4 4 ∧ RuL w t a A 4 12
  r7 : b7 = true → ∃ A, x10 = .slice A 5 5 ∧ RuL w t a A 5 16
  r9 : b9 = true → ∃ A, x12 = .slice A 4 4 ∧ RuL w t a A 4 21
  r10 : b10 = true → ∃ C A, x13 = .slice (some ⟨C, 0, none⟩) 5 5 ∧ Five w t a C A Lf Sf
  r11 : b11 = true → ∃ A c, x14 = .slice A 25 c ∧ RuL w t a A 25 0
  r12 : b12 = true → ∃ A c, x2 = .slice A 25 c ∧ RuL w t a A 25 0
theorem RI.below {t : Tb} {a : Ad} {W0 w w' : World} {b1 b3 b5 b7 b9 b10 b11 b12 : Bool} {x4 x6 x8 x10 x12 x13 x14 x2 : Value} (h : RI t a W0 w b1 b3 b5 b7 b9 b10 b11 b12 x4 x6 x8 x10 x12 x13 x14 x2) (hb : Below w.heap.size w w') : RI t a W0 w' b1 b3 b5 b7 b9 b10 b11 b12 x4 x6 x8 x10 x12 x13 x14 x2 :=
  ⟨h.gb.trans (hb.mono h.gb.size), fun g => by obtain ⟨A, e, r⟩ := h.r1 g; exact ⟨A, e, r.below hb⟩, fun g => by obtain ⟨A, e, r⟩ := h.r3 g; exact ⟨A, e, r.below hb⟩, fun g => by obtain ⟨A, e, r⟩ := h.r5 g; exact ⟨A, e, r.below hb⟩, fun g => by obtain ⟨A, e, r⟩ := h.r7 g; exact ⟨A, e, r.below hb⟩, fun g => by obtain ⟨A, e, r⟩ := h.r9 g; exact ⟨A, e, r.below hb⟩,
    fun g => by obtain ⟨C, A, e, r⟩ := h.r10 g; exact ⟨C, A, e, r.below hb⟩, fun g => by obtain ⟨A, c, e, r⟩ := h.r11 g; exact ⟨A, c, e, r.below hb⟩, fun g => by obtain ⟨A, c, e, r⟩ := h.r12 g; exact ⟨A, c, e, r.below hb⟩⟩
theorem five_of {w : World} {t : Tb} {a : Ad} {C : Nat} {A1 A3 A5 A7 A9 : Option Addr} (hc : CellsAt w C 0 [.slice A1 8 8, .slice A3 4 4, .slice A5 4 4, .slice A7 5 5, .slice A9 4 4]) (h1 : RuL w t a A1 8 0) (h3 : RuL w t a A3 4 8) (h5 : RuL w t a A5 4 12) (h7 : RuL w t a A7 5 16) (h9 : RuL w t a A9 4 21) : Five w t a C (fun i => [A1, A3, A5, A7, A9].getD i none) Lf Sf := by
  refine ⟨fun i hi => ?_, fun i hi => ?_, rfl, fun i hi => ?_, rfl, fun i hi => ?_⟩
  · match i, hi with
    | 0, _ => exact cell0 hc 0 rfl
    | 1, _ => exact cell0 hc 1 rfl
    | 2, _ => exact cell0 hc 2 rfl
    | 3, _ => exact cell0 hc 3 rfl
    | 4, _ => exact cell0 hc 4 rfl
  · match i, hi with
    | 0, _ => decide
    | 1, _ => decide
    | 2, _ => decide
    | 3, _ => decide
    | 4, _ => decide
  · match i, hi with
    | 0, _ => rfl
    | 1, _ => rfl
    | 2, _ => rfl
    | 3, _ => rfl
    | 4, _ => rfl
  · match i, hi with
    | 0, _ => exact h1
    | 1, _ => exact h3
    | 2, _ => exact h5
    | 3, _ => exact h7
    | 4, _ => exact h9
set_option maxRecDepth 40000 in
set_option maxHeartbeats 8000000 in
theorem rules_any (t : Tb) (a : Ad) (w : World) : Calls Tryz.prog 60 #[tbV t a] w fun e w' => (∃ A c, e = .returned (.slice A 25 c) ∧ RuL w' t a A 25 0) ∧ Below w.heap.size w w' := by
  have HB0 : Hid (Below w.heap.size w (w.alloc (.cells (tbA t a) 40))) := (Below.refl _ _).alloc (Nat.le_refl _) _
  have HX0 : Hid (TBx (w.alloc (.cells (tbA t a) 40)) w.heap.size t a) := TBx.new w t a _ rfl
  go_enter Tryz.func60, Tryz.ntmps60
  go_wp2
  revert HB0 HX0
  generalize (w.alloc (.cells (tbA t a) 40)) = W0
  intro HB0 HX0
  have HXX : Hid (∀ X, Below W0.heap.size W0 X → X.heap[w.heap.size]? = some (.cells (tbA t a) 40 (0, 0))) := fun X hX => HX0.out.below hX
  refine wp_region_inv (by kernel_rfl) (by kernel_rfl) (fun A ℓ a' w' => ∃ (x3 x5 x7 x9 x11 x4 x6 x8 x10 x12 x13 x14 x2 : Value), a' = (((((((((((((A.put (some 3) x3).put (some 5) x5).put (some 7) x7).put (some 9) x9).put (some 11) x11).put (some 4) x4).put (some 6) x6).put (some 8) x8).put (some 10) x10).put (some 12) x12).put (some 13) x13).put (some 14) x14).put (some 2) x2) ∧ RI t a W0 w' (ℓ 1) (ℓ 3) (ℓ 5) (ℓ 7) (ℓ 9) (ℓ 10) (ℓ 11) (ℓ 12) x4 x6 x8 x10 x12 x13 x14 x2 ∧ Hid (ℓ 0 = true → x3 = tbV t a) ∧ Hid (ℓ 2 = true → x5 = tbV t a) ∧ Hid (ℓ 4 = true → x7 = tbV t a) ∧ Hid (ℓ 6 = true → x9 = tbV t a) ∧ Hid (ℓ 8 = true → x11 = tbV t a)) ?_ ?_ ?_ ?_
  · exact ⟨undef, undef, undef, undef, undef, undef, undef, undef, undef, undef, undef, undef, .slice none 0 0, (by simp only [Act.put, List.setIfInBounds_toArray, List.set_cons_zero, List.set_cons_succ]), ⟨(Below.refl _ _).drew, (fun g => by cases g), (fun g => by cases g), (fun g => by cases g), (fun g => by cases g), (fun g => by cases g), (fun g => by cases g), (fun g => by cases g), (fun g => by cases g)⟩, (show _ → _ from fun g => by cases g), (show _ → _ from fun g => by cases g), (show _ → _ from fun g => by cases g), (show _ → _ from fun g => by cases g), (show _ → _ from fun g => by cases g)⟩
  · intro ℓ a' w' hI hall
    obtain ⟨x3, x5, x7, x9, x11, x4, x6, x8, x10, x12, x13, x14, x2, rfl, hr, f0, f2, f4, f6, f8⟩ := hI
    have hall' : ∀ i, i < 13 → ℓ i = true := hall
    obtain ⟨A9, c9, rfl, hA9⟩ := hr.r12 (hall' 12 (by omega))
    have HE : Hid (RuL w' t a A9 25 0 ∧ Below w.heap.size w w') := ⟨hA9, HB0.out.trans (hr.gb.mono HB0.out.size)⟩
    clear hr hA9 f0 f2 f4 f6 f8 hall hall'
    simp only [Act.put, List.setIfInBounds_toArray, List.set_cons_zero, List.set_cons_succ]
    go_wp2
    go_ret
    exact ⟨⟨A9, c9, rfl, HE.out.1⟩, HE.out.2⟩
  · intro ℓ a' w' i o hI ho hi hL hdep K hK
    obtain ⟨x3, x5, x7, x9, x11, x4, x6, x8, x10, x12, x13, x14, x2, rfl, hr, f0, f2, f4, f6, f8⟩ := hI
    have hi7 : i < 13 := hi
    have hcs : i = 0 ∨ i = 1 ∨ i = 2 ∨ i = 3 ∨ i = 4 ∨ i = 5 ∨ i = 6 ∨ i = 7 ∨ i = 8 ∨ i = 9 ∨ i = 10 ∨ i = 11 ∨ i = 12 := by omega
    clear hi hi7
    rcases hcs with rfl | rfl | rfl | rfl | rfl | rfl | rfl | rfl | rfl | rfl | rfl | rfl | rfl
    · replace ho : some ({ dst := some 3, op := .load 40 (.tmp 1), type := 40, pos := "l13_table.go:164", after := #[], guard := none } : Oper) = some o := ho
      obtain rfl := Option.some.inj ho
      clear hdep ho
      rw [if_pos (by rfl)]
      try simp only [Act.put, List.setIfInBounds_toArray, List.set_cons_zero, List.set_cons_succ]
      refine wp_load_row (P := Tryz.prog) 40 (.tmp 1) rfl w.heap.size rfl 40 (tbA t a) (0, 0) _ (HXX.out _ hr.gb) Tryz.underlying40 rfl (by kernel_rfl) ?_
      exact hK.out _ _ (fun j => if j = 0 then true else ℓ j) ⟨tbV t a, x5, x7, x9, x11, x4, x6, x8, x10, x12, x13, x14, x2, (by simp only [Act.put, List.setIfInBounds_toArray, List.set_cons_zero, List.set_cons_succ]), hr, (show _ → _ from fun _ => rfl), f2, f4, f6, f8⟩ (if_pos rfl) (fun j hj => if_neg hj)
    · obtain rfl := Option.some.inj ho
      have g : ℓ 0 = true := hdep { on := 0, ground := Ground.data } (by simp) rfl
      clear hdep ho
      obtain rfl := f0.out g
      rw [if_pos (by rfl)]
      try simp only [Act.put, List.setIfInBounds_toArray, List.set_cons_zero, List.set_cons_succ]
      go_simp
      refine Calls.mono (xr0 t a _) ?_
      rintro e w9 ⟨⟨A9, rfl, hA9⟩, hb9⟩
      have hr9 := hr.below hb9
      exact hK.out _ _ (fun j => if j = 1 then true else ℓ j) ⟨tbV t a, x5, x7, x9, x11, .slice A9 8 8, x6, x8, x10, x12, x13, x14, x2, (by simp only [Act.put, List.setIfInBounds_toArray, List.set_cons_zero, List.set_cons_succ]), ⟨hr9.gb, (fun _ => ⟨A9, rfl, hA9⟩), hr9.r3, hr9.r5, hr9.r7, hr9.r9, hr9.r10, hr9.r11, hr9.r12⟩, (show _ → _ from fun _ => rfl), f2, f4, f6, f8⟩ (if_pos rfl) (fun j hj => if_neg hj)
    · replace ho : some ({ dst := some 5, op := .load 40 (.tmp 1), type := 40, pos := "l13_table.go:164", after := #[], guard := none } : Oper) = some o := ho
      obtain rfl := Option.some.inj ho
      clear hdep ho
      rw [if_pos (by rfl)]
      try simp only [Act.put, List.setIfInBounds_toArray, List.set_cons_zero, List.set_cons_succ]
      refine wp_load_row (P := Tryz.prog) 40 (.tmp 1) rfl w.heap.size rfl 40 (tbA t a) (0, 0) _ (HXX.out _ hr.gb) Tryz.underlying40 rfl (by kernel_rfl) ?_
      exact hK.out _ _ (fun j => if j = 2 then true else ℓ j) ⟨x3, tbV t a, x7, x9, x11, x4, x6, x8, x10, x12, x13, x14, x2, (by simp only [Act.put, List.setIfInBounds_toArray, List.set_cons_zero, List.set_cons_succ]), hr, f0, (show _ → _ from fun _ => rfl), f4, f6, f8⟩ (if_pos rfl) (fun j hj => if_neg hj)
    · obtain rfl := Option.some.inj ho
      have g : ℓ 2 = true := hdep { on := 2, ground := Ground.data } (by simp) rfl
      clear hdep ho
      obtain rfl := f2.out g
      rw [if_pos (by rfl)]
      try simp only [Act.put, List.setIfInBounds_toArray, List.set_cons_zero, List.set_cons_succ]
      go_simp
      refine Calls.mono (xr1 t a _) ?_
      rintro e w9 ⟨⟨A9, rfl, hA9⟩, hb9⟩
      have hr9 := hr.below hb9
      exact hK.out _ _ (fun j => if j = 3 then true else ℓ j) ⟨x3, tbV t a, x7, x9, x11, x4, .slice A9 4 4, x8, x10, x12, x13, x14, x2, (by simp only [Act.put, List.setIfInBounds_toArray, List.set_cons_zero, List.set_cons_succ]), ⟨hr9.gb, hr9.r1, (fun _ => ⟨A9, rfl, hA9⟩), hr9.r5, hr9.r7, hr9.r9, hr9.r10, hr9.r11, hr9.r12⟩, f0, (show _ → _ from fun _ => rfl), f4, f6, f8⟩ (if_pos rfl) (fun j hj => if_neg hj)
    · replace ho : some ({ dst := some 7, op := .load 40 (.tmp 1), type := 40, pos := "l13_table.go:164", after := #[], guard := none } : Oper) = some o := ho
      obtain rfl := Option.some.inj ho
      clear hdep ho
      rw [if_pos (by rfl)]
      try simp only [Act.put, List.setIfInBounds_toArray, List.set_cons_zero, List.set_cons_succ]
      refine wp_load_row (P := Tryz.prog) 40 (.tmp 1) rfl w.heap.size rfl 40 (tbA t a) (0, 0) _ (HXX.out _ hr.gb) Tryz.underlying40 rfl (by kernel_rfl) ?_
      exact hK.out _ _ (fun j => if j = 4 then true else ℓ j) ⟨x3, x5, tbV t a, x9, x11, x4, x6, x8, x10, x12, x13, x14, x2, (by simp only [Act.put, List.setIfInBounds_toArray, List.set_cons_zero, List.set_cons_succ]), hr, f0, f2, (show _ → _ from fun _ => rfl), f6, f8⟩ (if_pos rfl) (fun j hj => if_neg hj)
    · obtain rfl := Option.some.inj ho
      have g : ℓ 4 = true := hdep { on := 4, ground := Ground.data } (by simp) rfl
      clear hdep ho
      obtain rfl := f4.out g
      rw [if_pos (by rfl)]
      try simp only [Act.put, List.setIfInBounds_toArray, List.set_cons_zero, List.set_cons_succ]
      go_simp
      refine Calls.mono (xr2 t a _) ?_
      rintro e w9 ⟨⟨A9, rfl, hA9⟩, hb9⟩
      have hr9 := hr.below hb9
      exact hK.out _ _ (fun j => if j = 5 then true else ℓ j) ⟨x3, x5, tbV t a, x9, x11, x4, x6, .slice A9 4 4, x10, x12, x13, x14, x2, (by simp only [Act.put, List.setIfInBounds_toArray, List.set_cons_zero, List.set_cons_succ]), ⟨hr9.gb, hr9.r1, hr9.r3, (fun _ => ⟨A9, rfl, hA9⟩), hr9.r7, hr9.r9, hr9.r10, hr9.r11, hr9.r12⟩, f0, f2, (show _ → _ from fun _ => rfl), f6, f8⟩ (if_pos rfl) (fun j hj => if_neg hj)
    · replace ho : some ({ dst := some 9, op := .load 40 (.tmp 1), type := 40, pos := "l13_table.go:164", after := #[], guard := none } : Oper) = some o := ho
      obtain rfl := Option.some.inj ho
      clear hdep ho
      rw [if_pos (by rfl)]
      try simp only [Act.put, List.setIfInBounds_toArray, List.set_cons_zero, List.set_cons_succ]
      refine wp_load_row (P := Tryz.prog) 40 (.tmp 1) rfl w.heap.size rfl 40 (tbA t a) (0, 0) _ (HXX.out _ hr.gb) Tryz.underlying40 rfl (by kernel_rfl) ?_
      exact hK.out _ _ (fun j => if j = 6 then true else ℓ j) ⟨x3, x5, x7, tbV t a, x11, x4, x6, x8, x10, x12, x13, x14, x2, (by simp only [Act.put, List.setIfInBounds_toArray, List.set_cons_zero, List.set_cons_succ]), hr, f0, f2, f4, (show _ → _ from fun _ => rfl), f8⟩ (if_pos rfl) (fun j hj => if_neg hj)
    · obtain rfl := Option.some.inj ho
      have g : ℓ 6 = true := hdep { on := 6, ground := Ground.data } (by simp) rfl
      clear hdep ho
      obtain rfl := f6.out g
      rw [if_pos (by rfl)]
      try simp only [Act.put, List.setIfInBounds_toArray, List.set_cons_zero, List.set_cons_succ]
      go_simp
      refine Calls.mono (xr3 t a _) ?_
      rintro e w9 ⟨⟨A9, rfl, hA9⟩, hb9⟩
      have hr9 := hr.below hb9
      exact hK.out _ _ (fun j => if j = 7 then true else ℓ j) ⟨x3, x5, x7, tbV t a, x11, x4, x6, x8, .slice A9 5 5, x12, x13, x14, x2, (by simp only [Act.put, List.setIfInBounds_toArray, List.set_cons_zero, List.set_cons_succ]), ⟨hr9.gb, hr9.r1, hr9.r3, hr9.r5, (fun _ => ⟨A9, rfl, hA9⟩), hr9.r9, hr9.r10, hr9.r11, hr9.r12⟩, f0, f2, f4, (show _ → _ from fun _ => rfl), f8⟩ (if_pos rfl) (fun j hj => if_neg hj)
    · replace ho : some ({ dst := some 11, op := .load 40 (.tmp 1), type := 40, pos := "l13_table.go:164", after := #[], guard := none } : Oper) = some o := ho
      obtain rfl := Option.some.inj ho
      clear hdep ho
      rw [if_pos (by rfl)]
      try simp only [Act.put, List.setIfInBounds_toArray, List.set_cons_zero, List.set_cons_succ]
      refine wp_load_row (P := Tryz.prog) 40 (.tmp 1) rfl w.heap.size rfl 40 (tbA t a) (0, 0) _ (HXX.out _ hr.gb) Tryz.underlying40 rfl (by kernel_rfl) ?_
      exact hK.out _ _ (fun j => if j = 8 then true else ℓ j) ⟨x3, x5, x7, x9, tbV t a, x4, x6, x8, x10, x12, x13, x14, x2, (by simp only [Act.put, List.setIfInBounds_toArray, List.set_cons_zero, List.set_cons_succ]), hr, f0, f2, f4, f6, (show _ → _ from fun _ => rfl)⟩ (if_pos rfl) (fun j hj => if_neg hj)
    · obtain rfl := Option.some.inj ho
      have g : ℓ 8 = true := hdep { on := 8, ground := Ground.data } (by simp) rfl
      clear hdep ho
      obtain rfl := f8.out g
      rw [if_pos (by rfl)]
      try simp only [Act.put, List.setIfInBounds_toArray, List.set_cons_zero, List.set_cons_succ]
      go_simp
      refine Calls.mono (xr4 t a _) ?_
      rintro e w9 ⟨⟨A9, rfl, hA9⟩, hb9⟩
      have hr9 := hr.below hb9
      exact hK.out _ _ (fun j => if j = 9 then true else ℓ j) ⟨x3, x5, x7, x9, tbV t a, x4, x6, x8, x10, .slice A9 4 4, x13, x14, x2, (by simp only [Act.put, List.setIfInBounds_toArray, List.set_cons_zero, List.set_cons_succ]), ⟨hr9.gb, hr9.r1, hr9.r3, hr9.r5, hr9.r7, (fun _ => ⟨A9, rfl, hA9⟩), hr9.r10, hr9.r11, hr9.r12⟩, f0, f2, f4, f6, (show _ → _ from fun _ => rfl)⟩ (if_pos rfl) (fun j hj => if_neg hj)
    · obtain rfl := Option.some.inj ho
      have g1 : ℓ 1 = true := hdep { on := 1, ground := Ground.data } (by simp) rfl
      have g3 : ℓ 3 = true := hdep { on := 3, ground := Ground.data } (by simp) rfl
      have g5 : ℓ 5 = true := hdep { on := 5, ground := Ground.data } (by simp) rfl
      have g7 : ℓ 7 = true := hdep { on := 7, ground := Ground.data } (by simp) rfl
      have g9 : ℓ 9 = true := hdep { on := 9, ground := Ground.data } (by simp) rfl
      clear hdep ho
      obtain ⟨A1, rfl, h1⟩ := hr.r1 g1
      obtain ⟨A3, rfl, h3⟩ := hr.r3 g3
      obtain ⟨A5, rfl, h5⟩ := hr.r5 g5
      obtain ⟨A7, rfl, h7⟩ := hr.r7 g7
      obtain ⟨A9, rfl, h9⟩ := hr.r9 g9
      rw [if_pos (by rfl)]
      try simp only [Act.put, List.setIfInBounds_toArray, List.set_cons_zero, List.set_cons_succ]
      go_simp
      have hal : Below w'.heap.size w' (w'.alloc (.cells #[.slice A1 8 8, .slice A3 4 4, .slice A5 4 4, .slice A7 5 5, .slice A9 4 4] 99)) := (Below.refl _ _).alloc (Nat.le_refl _) _
      have hr9 := hr.below hal
      have h10 : Five (w'.alloc (.cells #[.slice A1 8 8, .slice A3 4 4, .slice A5 4 4, .slice A7 5 5, .slice A9 4 4] 99)) t a w'.heap.size (fun i => [A1, A3, A5, A7, A9].getD i none) Lf Sf := five_of (CellsAt.new w' [.slice A1 8 8, .slice A3 4 4, .slice A5 4 4, .slice A7 5 5, .slice A9 4 4] _ _ rfl) (h1.below hal) (h3.below hal) (h5.below hal) (h7.below hal) (h9.below hal)
      exact hK.out _ _ (fun j => if j = 10 then true else ℓ j) ⟨x3, x5, x7, x9, x11, .slice A1 8 8, .slice A3 4 4, .slice A5 4 4, .slice A7 5 5, .slice A9 4 4, .slice (some ⟨w'.heap.size, 0, none⟩) 5 5, x14, x2, (by simp only [Act.put, List.setIfInBounds_toArray, List.set_cons_zero, List.set_cons_succ]), ⟨hr9.gb, hr9.r1, hr9.r3, hr9.r5, hr9.r7, hr9.r9, (fun _ => ⟨_, _, rfl, h10⟩), hr9.r11, hr9.r12⟩, f0, f2, f4, f6, f8⟩ (if_pos rfl) (fun j hj => if_neg hj)
    · obtain rfl := Option.some.inj ho
      have g : ℓ 10 = true := hdep { on := 10, ground := Ground.data } (by simp) rfl
      clear hdep ho
      obtain ⟨C, AA, rfl, h5⟩ := hr.r10 g
      rw [if_pos (by rfl)]
      try simp only [Act.put, List.setIfInBounds_toArray, List.set_cons_zero, List.set_cons_succ]
      go_simp
      refine Calls.mono (concat5 C AA Lf Sf t a _ h5) ?_
      rintro e w9 ⟨⟨A9, c9, rfl, hA9⟩, hb9⟩
      have hr9 := hr.below hb9
      exact hK.out _ _ (fun j => if j = 11 then true else ℓ j) ⟨x3, x5, x7, x9, x11, x4, x6, x8, x10, x12, .slice (some ⟨C, 0, none⟩) 5 5, .slice A9 25 c9, x2, (by simp only [Act.put, List.setIfInBounds_toArray, List.set_cons_zero, List.set_cons_succ]), ⟨hr9.gb, hr9.r1, hr9.r3, hr9.r5, hr9.r7, hr9.r9, hr9.r10, (fun _ => ⟨A9, c9, rfl, hA9⟩), hr9.r12⟩, f0, f2, f4, f6, f8⟩ (if_pos rfl) (fun j hj => if_neg hj)
    · obtain rfl := Option.some.inj ho
      have g : ℓ 11 = true := hdep { on := 11, ground := Ground.data } (by simp) rfl
      clear hdep ho
      obtain ⟨A9, c9, rfl, hA9⟩ := hr.r11 g
      rw [if_pos (by rfl)]
      try simp only [Act.put, List.setIfInBounds_toArray, List.set_cons_zero, List.set_cons_succ]
      go_simp
      exact hK.out _ _ (fun j => if j = 12 then true else ℓ j) ⟨x3, x5, x7, x9, x11, x4, x6, x8, x10, x12, x13, .slice A9 25 c9, .slice A9 25 c9, (by simp only [Act.put, List.setIfInBounds_toArray, List.set_cons_zero, List.set_cons_succ]), ⟨hr.gb, hr.r1, hr.r3, hr.r5, hr.r7, hr.r9, hr.r10, hr.r11, (fun _ => ⟨A9, c9, rfl, hA9⟩)⟩, f0, f2, f4, f6, f8⟩ (if_pos rfl) (fun j hj => if_neg hj)
  · rintro a' w' ℓ ℓ' hℓ hI
    rw [← show ℓ = ℓ' from funext hℓ]
    exact hI
end Go.Proofs.YtofibnmbgfggkaaGreatDoor
