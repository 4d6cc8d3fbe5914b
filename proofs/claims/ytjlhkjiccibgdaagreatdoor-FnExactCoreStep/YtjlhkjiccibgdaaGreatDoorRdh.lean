/-
  Writing into a guest, by the specification and by the program: the same guest, in memory of the call's own, and the same fault. Conditions: registers, rows and bytes are at most 1048576 together.
  Writing into a guest, by the program. Conditions: registers, rows and bytes are at most 1048576 together.
  Reading of a guest, by the specification and by the program: Peek and Fetch. Conditions: lengths are lengths of slices, numbers are numbers of their kinds.
-/
import Derived.Test.YtjlhkjiccibgdaaGreatDoorProg
import Derived.Test.YtjlhkjiccibgdaaGreatDoorSto
import Derived.Test.YtjlhkjiccibgdaaGreatDoorAlz
import Derived.Test.YtjlhkjiccibgdaaGreatDoorRdg
namespace Go.Proofs.YtjlhkjiccibgdaaGreatDoor
open Go.ChangeShapes Go.WideShapes Go.ChangeAt Go.RowKit Go.Deep
set_option linter.unusedVariables false

def putD (D : Nat → List Int) (K fr S : Nat) (x : Int) : Nat → List Int := fun i => if i = K then putRow (D K) fr S x else D i
theorem putD_len (D : Nat → List Int) (K fr S : Nat) (x : Int) (i : Nat) : (putD D K fr S x i).length = (D i).length := by
  unfold putD
  by_cases e : i = K
  · subst e; rw [if_pos rfl, putRow_len]
  · rw [if_neg e]
/-- What writing comes to: the fault, and the memory behind it. -/
def PkP (xs : List Wn) (n : Nat) (D : Nat → List Int) (ad size x r : Int) (D1 : Nat → List Int) : Prop :=
  ∃ v, RdP xs n D ad size 2 v r ∧ ((¬ r = 0 ∧ D1 = D) ∨ (r = 0 ∧ ∃ K fr S bs, AtP xs n ad ((K : Nat) : Int) ∧ AccIn xs n D ad size K fr S bs ∧ D1 = putD D K fr S x))
theorem PkP.ex {xs : List Wn} {rs : List Int} {n : Nat} {D : Nat → List Int} (hg : GOk xs rs n D) (ad size x : Int) : ∃ r D1, PkP xs n D ad size x r D1 ∧ ∀ i, (D1 i).length = (D i).length := by
  obtain ⟨v, r, h⟩ := RdP.ex hg ad size 2
  by_cases h0 : r = 0
  · subst h0
    have h' := h
    obtain ⟨ra, hra, _, hw⟩ := h'
    rcases hw with ⟨hw, _⟩ | ⟨_, K, fr, S, bs, e, hin, _⟩
    · exact absurd rfl hw
    · subst e
      exact ⟨0, putD D K fr S x, ⟨v, h, .inr ⟨rfl, K, fr, S, bs, hra, hin, rfl⟩⟩, putD_len D K fr S x⟩
  · exact ⟨r, D, ⟨v, h, .inl ⟨h0, rfl⟩⟩, fun _ => rfl⟩
theorem brows_row {w : World} {lo hi : Nat} {ma : Option Addr} {n : Nat} {D : Nat → List Int} (h : BRows w lo hi ma n D) (K : Nat) (hK : K < n) (h0 : 0 < (D K).length) :
    ∃ b2 o2 bi oi ci, ma = some ⟨b2, o2, none⟩ ∧ w.cell? ⟨b2, o2 + K, none⟩ = some (.slice (some ⟨bi, oi, none⟩) (D K).length ci) ∧ (D K).length ≤ ci ∧ b2 ≠ bi ∧ lo ≤ bi ∧ bi < hi ∧ bi < w.heap.size ∧ ON .u8 w lo hi (some ⟨bi, oi, none⟩) (D K) bi ∧
      ∀ w' ws, ws.length = (D K).length → Betw bi (bi + 1) w w' → ON .u8 w' lo hi (some ⟨bi, oi, none⟩) ws bi → BRows w' lo hi ma n (fun i => if i = K then ws else D i) := by
  obtain ⟨B, off, A, C, R, h1, h2⟩ := h
  obtain ⟨e, g1, g2, g3⟩ := h1 (by omega)
  have hrow := h2.row K hK
  obtain ⟨oi, e1, k1, k2, k3, k4, k5⟩ := hrow h0
  have hb := h2.base K hK h0
  have hcl := h2.cell K hK
  rw [e1] at hcl hrow
  refine ⟨B, off, R K, oi, C K, e, hcl, h2.room K hK, fun c => hb c.symm, k1, k2, k3, hrow, fun w' ws hl hbt hon => ?_⟩
  refine ⟨B, off, A, C, R, fun _ => ⟨e, g1, g2, Nat.lt_of_lt_of_le g3 hbt.size⟩, h2.put K hK g3 ws hl hbt ?_ h0⟩
  rw [e1]
  exact hon
theorem betw00 {w w' : World} (h : Betw 0 0 w w') : Below w.heap.size w w' := ⟨h.os, h.tape, h.output, h.size, fun k hk => h.block k hk (.inr (Nat.zero_le _))⟩
theorem seg_lt2 {w : World} {a : Option Addr} {xs : List Wn} {K : Nat} (h : ASeg w a xs) (hK : K < xs.length) : ∃ b1 o1, a = some ⟨b1, o1, none⟩ ∧ b1 < w.heap.size ∧ w.cell? ⟨b1, o1 + K * 3, none⟩ = some (.int .i64 (xs.getD K wn0).1) := by
  obtain ⟨b1, o1, e, hbl, p0, _, _⟩ := ASeg.at h K hK
  exact ⟨b1, o1, e, hbl, p0⟩
def PAns (X : World) (rs : List Int) (rl : Nat) (pc : Int) (n : Nat) (D : Nat → List Int) (r : Int) (e : Ending) (w' : World) : Prop :=
  ∃ ra' ma' rc' mc', e = .returned (.tuple #[gst ra' rl rc' pc ma' n mc', .int .i64 r]) ∧ Below X.heap.size X w' ∧ Sep w' X.heap.size w'.heap.size ra' ma' rs n D
def QAns (X : World) (rs : List Int) (rl : Nat) (pc : Int) (n : Nat) (D : Nat → List Int) (r : Int) (e : Ending) (w' : World) : Prop :=
  ∃ ra' ma' rc' mc' m, e = .returned (.tuple #[gst ra' rl rc' pc ma' n mc', .int .i64 r]) ∧ Below X.heap.size X w' ∧ OGst w' X.heap.size m w'.heap.size ra' ma' rs n D ∧ X.heap.size ≤ m ∧ m ≤ w'.heap.size
theorem sep_no (w : World) (lo hi : Nat) (h : lo ≤ hi) : Sep w lo hi none none [] 0 noD := (og_no w lo lo hi).sep (Nat.le_refl _) h
end Go.Proofs.YtjlhkjiccibgdaaGreatDoor
namespace Go.Proofs.YtjlhkjiccibgdaaGreatDoor
open Go.ChangeShapes Go.WideShapes Go.ChangeAt Go.RowKit Go.Deep
set_option linter.unusedVariables false

theorem btot_len {D D1 : Nat → List Int} (h : ∀ i, (D1 i).length = (D i).length) (n : Nat) : btot D1 n = btot D n := btot_congr (fun i _ => h i)
end Go.Proofs.YtjlhkjiccibgdaaGreatDoor
namespace Go.Proofs.YtjlhkjiccibgdaaGreatDoor
open Go.ChangeShapes Go.WideShapes Go.ChangeAt Go.RowKit Go.Deep
set_option linter.unusedVariables false

/-- What the program's reading keeps in variables of its own: the guest, the windows, the access, the word. -/
structure RV (w : World) (g : Nat) (ra ma : Option Addr) (rl rc n mc : Nat) (pc : Int) (a : Option Addr) (wn cap : Nat) (ad size kind : Int) (gx : Nat) (x : Int) : Prop where
  b0 : Bk w g #[.slice ra rl rc, .int .u32 pc, .slice ma n mc]
  b1 : Bk w (g + 1) #[.slice a wn cap]
  b2 : Bk w (g + 2) #[.int .u32 ad]
  b3 : Bk w (g + 3) #[.int .i64 size]
  b4 : Bk w (g + 4) #[.int .i64 kind]
  bx : Bk w gx #[.int .u32 x]
  far : g + 4 < gx
theorem RV.below {w w' : World} {g : Nat} {ra ma : Option Addr} {rl rc n mc : Nat} {pc : Int} {a : Option Addr} {wn cap : Nat} {ad size kind : Int} {gx : Nat} {x : Int} (h : RV w g ra ma rl rc n mc pc a wn cap ad size kind gx x) (hb : Below w.heap.size w w') : RV w' g ra ma rl rc n mc pc a wn cap ad size kind gx x :=
  ⟨h.b0.below hb, h.b1.below hb, h.b2.below hb, h.b3.below hb, h.b4.below hb, h.bx.below hb, h.far⟩
/-- What the reading tells of a guest right or not. -/
def RdA (q : Bool) (xs : List Wn) (n : Nat) (D : Nat → List Int) (ad size kind v r : Int) : Prop := (q = false ∧ v = 0 ∧ r = 9) ∨ (q = true ∧ RdP xs n D ad size kind v r)
theorem RdA.ex {xs : List Wn} {rs : List Int} {n : Nat} {D : Nat → List Int} {q : Bool} (hq : q = true ↔ GOk xs rs n D) (ad size kind : Int) : ∃ v r, RdA q xs n D ad size kind v r := by
  cases q
  · exact ⟨0, 9, .inl ⟨rfl, rfl, rfl⟩⟩
  · obtain ⟨v, r, h⟩ := RdP.ex (hq.1 rfl) ad size kind
    exact ⟨v, r, .inr ⟨rfl, h⟩⟩
theorem rd_word {xs : List Wn} {n : Nat} {D : Nat → List Int} {ad size kind v r : Int} (h : RdP xs n D ad size kind v r) (hr : ¬ r = 0) : v = 0 := by
  obtain ⟨_, _, _, h⟩ := h
  rcases h with ⟨_, h⟩ | ⟨h, _⟩
  · exact h
  · exact absurd h hr
set_option maxHeartbeats 4000000 in
theorem spec_fetch0 (a ra ma : Option Addr) (cap rl rc n mc : Nat) (pc v r : Int) (xs : List Wn) (rs : List Int) (D : Nat → List Int) (w : World) (hs : ASeg w a xs) (hg : GSeg w ra ma rs n D) (hgo : GOk xs rs n D) (hrd : RdP xs n D pc 4 4 v r) (hb8 : ∀ i, i < n → ∀ z ∈ D i, (Lit.int .u8 z).wf = true) (had : 0 ≤ pc ∧ pc < 4294967296) :
    Calls Tryz.prog 38 #[.slice a n cap, gst ra rl rc pc ma n mc] w fun e w' => e = .returned (.tuple #[.int .u32 v, .int .i64 r]) ∧ Below w.heap.size w w' := by
  have hbw : Below w.heap.size w (w.alloc (.cells #[.slice ra rl rc, .int .u32 pc, .slice ma n mc] 30)) := (Below.refl _ w).alloc (Nat.le_refl _) _
  have B0 := Bk.new w #[.slice ra rl rc, .int .u32 pc, .slice ma n mc] 30 w.heap.size rfl
  have HB : Hid (Below w.heap.size w _) := hbw
  have HS : Hid (ASeg w a xs ∧ GSeg w ra ma rs n D) := ⟨hs, hg⟩
  have HGO : Hid (GOk xs rs n D ∧ RdP xs n D pc 4 4 v r) := ⟨hgo, hrd⟩
  have HB8 : Hid (∀ i, i < n → ∀ z ∈ D i, (Lit.int .u8 z).wf = true) := hb8
  have HFT : Hid _ := fault_l hgo hrd ⟨.inr rfl, .inr (.inr rfl)⟩ a cap _ (hs.below hbw) had
  have had0 := had.1
  have had1 := had.2
  have c1 := B0.cell 1 _ rfl
  clear hs hg hgo hrd hb8 had hbw
  go_enter Tryz.func38, Tryz.ntmps38
  go_wp2_with fail
  refine Calls.mono HFT.out ?_
  rintro u w2 ⟨rfl, hb2⟩
  have HB2 : Hid (Below w.heap.size w w2) := HB.out.trans (hb2.mono HB.out.size)
  replace B0 := B0.below hb2
  replace c1 := B0.cell 1 _ rfl
  have c0 := B0.cell 0 _ rfl
  have c2 := B0.cell 2 _ rfl
  clear hb2 B0 HFT
  by_cases hr0 : r = 0
  · subst hr0
    go_wp2_with fail
    refine Calls.mono (get_s HGO.out.1 HGO.out.2 HB8.out a ra ma cap rl rc mc pc w2 (HS.out.1.below HB2.out) (HS.out.2.2.below HB2.out)) ?_
    rintro u w3 ⟨rfl, hb3⟩
    have HB3 : Hid (Below w.heap.size w w3) := HB2.out.trans (hb3.mono HB2.out.size)
    clear hb3 c0 c1 c2
    go_wp2
    go_ret2
    exact ⟨rfl, HB3.out⟩
  · have hr0' : (r == 0) = false := beq_eq_false_iff_ne.2 hr0
    have HX : Hid (v = 0) := rd_word HGO.out.2 hr0
    go_wp2
    go_ret2
    exact ⟨ret_wf (by rw [HX.out]), HB2.out⟩
end Go.Proofs.YtjlhkjiccibgdaaGreatDoor
