
/-
  What LoadImage returns, the specification's and the program's at once. Conditions: tables and words lie in memory; the program's table of extras lies as the text lays it.
-/
import Derived.Test.YtdmlgnmklnaehaaGreatDoorBas
import Derived.Test.YtdmlgnmklnaehaaGreatDoorLdss
import Derived.Test.YtdmlgnmklnaehaaGreatDoorLdsp
import Derived.Test.YtdmlgnmklnaehaaGreatDoorLdsn
import Derived.Test.YtdmlgnmklnaehaaGreatDoorLdsf
import Derived.Test.YtdmlgnmklnaehaaGreatDoorLdsg
import Derived.Test.YtdmlgnmklnaehaaGreatDoorLdin
import Derived.Test.YtdmlgnmklnaehaaGreatDoorLdis
import Derived.Test.YtdmlgnmklnaehaaGreatDoorLdip
import Derived.Test.YtdmlgnmklnaehaaGreatDoorLdif
import Derived.Test.YtdmlgnmklnaehaaGreatDoorLdig
namespace Go.Proofs.YtdmlgnmklnaehaaGreatDoor
open Go.ChangeShapes Go.WideShapes Go.ChangeAt Go.RowKit Go.Deep Go.Joins
set_option linter.unusedVariables false

theorem rowL_tot (xs : List Wn) (home off m : Nat) (zs : List Int) (hx : WsOk xs) (n : Nat) (hn : n ≤ xs.length) : btot (Ld.rowL xs home off m zs) n ≤ n * 65536 := by
  induction n with
  | zero => simp [btot]
  | succ n ih =>
    have h1 := ih (by omega)
    have h2 := (hx.2 n (by omega)).1
    simp only [WOk, WinOk] at h2
    simp only [btot, Ld.rowL_len, Ld.sz]
    have h3 : (xs.getD n wn0).2.1.toNat ≤ 65536 := by omega
    omega
/-- What both say: rows, and whether. -/
theorem ld_all (t : Tb) (x : Int) (n : Nat) (zs : List Int) (hl : zs.length = n) (hn : n ≤ 1048576) (hz : ∀ z ∈ zs, 0 ≤ z ∧ z ≤ 4294967295) :
    ∃ (N : Nat) (D : Nat → List Int) (q : Bool), Hid (N ≤ 1048576 ∧ btot D N ≤ 1048576) ∧
      Hid (∀ (a : Ad) (wa : Option Addr) (wc : Nat) (w : World), TM 0 w t a → TW t a → TS a → Seg .u32 w wa zs → Calls Tryz.prog 6 #[tbV t a, .int .i64 x, .slice wa n wc] w (LdAns w N D q)) ∧
      Hid (∀ (a : Ad) (wa : Option Addr) (wc : Nat) (w : World), TM 0 w t a → TW t a → TS a → TabE w → a.pn ≤ a.pc → Seg .u32 w wa zs → Calls Tryz.prog 9 #[tbV t a, .int .i64 x, .slice wa n wc] w (LdAns w N D q)) := by
  by_cases hq : Sd t
  rotate_left
  · refine ⟨0, fun _ => [], false, ⟨by omega, by simp [btot]⟩, fun a wa wc w hm hw hs hg => spec_ld_s t a x wa wc n zs w hm hw hs hg hl hn hq, fun a wa wc w hm hw hs he hpc hg => ?_⟩
    by_cases h256 : n ≤ 256
    · exact impl_ld_s t a x wa wc n zs w hm hw hs he hpc hg hl hn h256 hq
    · exact impl_ld_n t a x wa wc n zs w hm hw hs he hpc hg hl hn (by omega)
  by_cases hx : 0 ≤ x ∧ x < (t.ps.length : Int)
  rotate_left
  · refine ⟨0, fun _ => [], false, ⟨by omega, by simp [btot]⟩, fun a wa wc w hm hw hs hg => spec_ld_p t a x wa wc n zs w hm hw hs hg hl hn hq (by rw [← hw.pl]; exact hx), fun a wa wc w hm hw hs he hpc hg => ?_⟩
    by_cases h256 : n ≤ 256
    · exact impl_ld_p t a x wa wc n zs w hm hw hs he hpc hg hl hn h256 hq (by rw [← hw.pl]; exact hx)
    · exact impl_ld_n t a x wa wc n zs w hm hw hs he hpc hg hl hn (by omega)
  obtain ⟨X, rfl⟩ : ∃ X : Nat, x = (X : Int) := ⟨x.toNat, by omega⟩
  have hX : X < t.ps.length := by omega
  by_cases h256 : 256 < n
  · exact ⟨0, fun _ => [], false, ⟨by omega, by simp [btot]⟩, fun a wa wc w hm hw hs hg => spec_ld_n t a X wa wc n zs w hm hw hs hg hl hn hq (by rw [← hw.pl]; exact hX) h256, fun a wa wc w hm hw hs he hpc hg => impl_ld_n t a X wa wc n zs w hm hw hs he hpc hg hl hn h256⟩
  have h256' : n ≤ 256 := by omega
  obtain ⟨home, off, h1, h2, h3, h4⟩ := Ld.sd_home hq hX
  have hln : ∀ (a : Ad) (w : World), TM 0 w t a → TW t a → (a.Y X).wn = (t.ps.getD X pt0).ws.length := fun a w hm hw => (hm.p.2 X (by rw [← hw.pl]; exact hX)).ln.symm
  have hwk := sd_wsok hq hX
  by_cases hf : (t.ps.getD X pt0).en + 4 * (n : Int) ≤ ((t.ps.getD X pt0).ws.getD home wn0).1 + ((t.ps.getD X pt0).ws.getD home wn0).2.1
  · refine ⟨(t.ps.getD X pt0).ws.length, Ld.rowL (t.ps.getD X pt0).ws home off n zs, true, ⟨by have := hwk.1; omega, ?_⟩, fun a wa wc w hm hw hs hg => ?_, fun a wa wc w hm hw hs he hpc hg => ?_⟩
    · have := rowL_tot (t.ps.getD X pt0).ws home off n zs hwk _ (Nat.le_refl _)
      have := hwk.1
      omega
    · exact spec_ld_g t a X wa wc n zs w hm hw hs hg hl hn hq (by rw [← hw.pl]; exact hX) h256' _ _ _ rfl rfl (hln a w hm hw) home off h1 h2 ⟨h3, h4⟩ (fun _ _ => trivial) hz hf
    · exact impl_ld_g t a X wa wc n zs w hm hw hs he hpc hg hl hn hq (by rw [← hw.pl]; exact hX) h256' _ _ _ rfl rfl (hln a w hm hw) home off h1 h2 ⟨h3, h4⟩ hf hz
  · refine ⟨0, fun _ => [], false, ⟨by omega, by simp [btot]⟩, fun a wa wc w hm hw hs hg => ?_, fun a wa wc w hm hw hs he hpc hg => ?_⟩
    · exact spec_ld_f t a X wa wc n zs w hm hw hs hg hl hn hq (by rw [← hw.pl]; exact hX) h256' _ _ _ rfl rfl (hln a w hm hw) home off h1 h2 ⟨h3, h4⟩ (fun _ _ => trivial) hf
    · exact impl_ld_f t a X wa wc n zs w hm hw hs he hpc hg hl hn hq (by rw [← hw.pl]; exact hX) h256' _ _ _ rfl rfl (hln a w hm hw) home off h1 h2 ⟨h3, h4⟩ hf
end Go.Proofs.YtdmlgnmklnaehaaGreatDoor
