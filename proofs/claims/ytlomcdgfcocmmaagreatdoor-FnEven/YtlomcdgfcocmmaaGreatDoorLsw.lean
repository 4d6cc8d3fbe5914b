
/-
  The law of soundness, walked: at all tables it returns true. Conditions: the lists lie in memory; the program's table of extras holds what the program's text lays.
-/
import Derived.Test.YtlomcdgfcocmmaaGreatDoorBas
import Derived.Test.YtlomcdgfcocmmaaGreatDoorOpn
import Derived.Test.YtlomcdgfcocmmaaGreatDoorRl3
import Derived.Test.YtlomcdgfcocmmaaGreatDoorSp6
import Derived.Test.YtlomcdgfcocmmaaGreatDoorTbe
import Derived.Test.YtlomcdgfcocmmaaGreatDoorGen
import Derived.Test.YtlomcdgfcocmmaaGreatDoorRul
namespace Go.Proofs.YtlomcdgfcocmmaaGreatDoor
open Go.ChangeShapes Go.WideShapes Go.ChangeAt Go.RowKit Go.Deep Go.Joins
set_option linter.unusedVariables false

theorem new_row (w : World) (cs : Array Value) (ty : TypeId) (B : Nat) (hB : B = w.heap.size) : (w.alloc (.cells cs ty)).heap[B]? = some (.cells cs ty (0, 0)) := by
  subst hB
  show (w.heap.push _)[w.heap.size]? = _
  simp
theorem row_below {X X' : World} {B : Nat} {cs : Array Value} {ty : TypeId} (h : X.heap[B]? = some (.cells cs ty (0, 0))) (hb : Below X.heap.size X X') : X'.heap[B]? = some (.cells cs ty (0, 0)) := by
  have : B < X.heap.size := by
    rcases Nat.lt_or_ge B X.heap.size with g | g
    · exact g
    · rw [Array.getElem?_eq_none g] at h; cases h
  rw [hb.block B this]; exact h
theorem ad_carry {t : Tb} {a a' : Ad} {lo lo' : Nat} {w w' : World} (hm : TM lo w t a) (hm' : TM lo' w' t a') (hw : TW t a) (hs : TS a) (e : a'.pn = a.pn ∧ a'.dn = a.dn ∧ a'.cn = a.cn ∧ a'.sn = a.sn) : TW t a' ∧ TS a' := by
  obtain ⟨e1, e2, e3, e4⟩ := e
  have hy : ∀ i, i < a'.pn → (a'.Y i).wn = (a.Y i).wn ∧ (a'.Y i).nm = (a.Y i).nm := fun i hi => by
    have h1 := hm'.p.2 i hi
    have h2 := hm.p.2 i (by omega)
    exact ⟨by rw [← h1.ln, ← h2.ln], by rw [h1.nm, h2.nm]⟩
  refine ⟨⟨by rw [e1]; exact hw.pl, by rw [e2]; exact hw.dl, by rw [e3]; exact hw.cl, by rw [e4]; exact hw.sl, by rw [e1]; exact hw.pb, by rw [e2]; exact hw.db, by rw [e3]; exact hw.cb, by rw [e4]; exact hw.sb, fun i hi => ?_, fun i hi => hw.wf i (by omega), fun i hi => hw.sf i (by omega)⟩, ⟨by rw [e1]; exact hs.p, by rw [e2]; exact hs.d, by rw [e3]; exact hs.c, by rw [e4]; exact hs.s, fun i hi => ?_⟩⟩
  · obtain ⟨h1, h2⟩ := hy i hi
    rw [h1, h2]; exact hw.wb i (by omega)
  · obtain ⟨h1, h2⟩ := hy i hi
    rw [h1, h2]; exact hs.w i (by omega)
/-- All that is known of a copy. -/
structure Cpy (w : World) (t : Tb) (a a' : Ad) : Prop where
  m : TM 0 w t a'
  w : TW t a'
  s : TS a'
  c : a'.pn ≤ a'.pc
  c2 : a'.sn ≤ a'.sc
  p1 : a'.pn = a.pn
  p2 : a'.dn = a.dn
  p3 : a'.cn = a.cn
  p4 : a'.sn = a.sn
theorem Cpy.below {w w' : World} {t : Tb} {a a' : Ad} (h : Cpy w t a a') (hb : Below w.heap.size w w') : Cpy w' t a a' := ⟨h.m.below hb, h.w, h.s, h.c, h.c2, h.p1, h.p2, h.p3, h.p4⟩
/-- What the tail of a law has come to. -/
structure TI (t : Tb) (a a4 : Ad) (W0 w : World) (b0 b1 b2 b3 b4 : Bool) (x22 x23 x24 x25 x26 : Value) : Prop where
  gb : Below W0.heap.size W0 w
  f0 : b0 = true → x22 = tbV t a4
  f1 : b1 = true → x23 = tbV t a
  f2 : b2 = true → ∃ a5, x24 = tbV t a5 ∧ Cpy w t a a5
  f3 : b3 = true → x25 = .bool true
  f4 : b4 = true → x26 = .bool false
theorem TI.below {t : Tb} {a a4 : Ad} {W0 w w' : World} {b0 b1 b2 b3 b4 : Bool} {x22 x23 x24 x25 x26 : Value} (h : TI t a a4 W0 w b0 b1 b2 b3 b4 x22 x23 x24 x25 x26) (hb : Below w.heap.size w w') : TI t a a4 W0 w' b0 b1 b2 b3 b4 x22 x23 x24 x25 x26 :=
  ⟨h.gb.trans (hb.mono h.gb.size), h.f0, h.f1, fun g => by obtain ⟨a5, e, c⟩ := h.f2 g; exact ⟨a5, e, c.below hb⟩, h.f3, h.f4⟩
end Go.Proofs.YtlomcdgfcocmmaaGreatDoor
