
/-
  A whole step as a relation on numbers, and the specification's step: it answers what the relation says. Conditions: the guest is right for its windows, its registers are words, its memory bytes; the windows lie ahead of the guest.
-/
import Derived.Test.YtjlhkjiccibgdaaGreatDoorCp0
import Derived.Test.YtjlhkjiccibgdaaGreatDoorCp15
import Derived.Test.YtjlhkjiccibgdaaGreatDoorCp16
import Derived.Test.YtjlhkjiccibgdaaGreatDoorCp17
import Derived.Test.YtjlhkjiccibgdaaGreatDoorCp18
import Derived.Test.YtjlhkjiccibgdaaGreatDoorCp19
import Derived.Test.YtjlhkjiccibgdaaGreatDoorCp20
import Derived.Test.YtjlhkjiccibgdaaGreatDoorCp21
import Derived.Test.YtjlhkjiccibgdaaGreatDoorCp22
import Derived.Test.YtjlhkjiccibgdaaGreatDoorCpAlu
import Derived.Test.YtjlhkjiccibgdaaGreatDoorCpe
namespace Go.Proofs.YtjlhkjiccibgdaaGreatDoor
open Go.ChangeShapes Go.WideShapes Go.ChangeAt Go.RowKit Go.Deep
set_option linter.unusedVariables false

theorem bt_rng {D : Nat → List Int} {K i : Nat} (h : ∀ z ∈ D K, (Lit.int .u8 z).wf = true) : 0 ≤ bt D K i ∧ bt D K i ≤ 255 := by
  unfold bt
  by_cases hi : i < (D K).length
  · exact bounds_u8 (h _ (getD_mem (D K) i hi))
  · simp [List.getD, hi]
theorem rd_rng {xs : List Wn} {n : Nat} {D : Nat → List Int} {ad size kind v r : Int} (h : RdP xs n D ad size kind v r) (hb8 : ∀ i, i < n → ∀ z ∈ D i, (Lit.int .u8 z).wf = true) : 0 ≤ v ∧ v ≤ 4294967295 := by
  obtain ⟨_, _, _, h⟩ := h
  rcases h with ⟨_, rfl⟩ | ⟨_, K, fr, S, bs, _, hin, rfl⟩
  · omega
  · obtain ⟨k1, _⟩ := hin
    have b := fun i => bt_rng (i := i) (hb8 K k1)
    have b0 := b fr
    have b1 := b (fr + 1)
    have b2 := b (fr + 2)
    have b3 := b (fr + 3)
    unfold getW
    split <;> omega
theorem rd_pos {xs : List Wn} {n : Nat} {D : Nat → List Int} {ad size kind v : Int} (h : RdP xs n D ad size kind v 0) : 0 < n := by
  obtain ⟨_, _, _, h⟩ := h
  rcases h with ⟨h, _⟩ | ⟨_, K, fr, S, bs, _, hin, _⟩
  · exact absurd rfl h
  · have := hin.1
    omega
theorem addrW (rs : List Int) (B : Nat) (m : Int) : (rs.getD B 0 + m) % 4294967296 = addrF rs B m := by show _ = (_ + _) % 4294967296; omega
theorem addrR (rs : List Int) (B : Nat) (m : Int) : 0 ≤ addrF rs B m ∧ addrF rs B m < 4294967296 := ⟨Int.emod_nonneg _ (by decide), Int.emod_lt_of_pos _ (by decide)⟩
/-- A whole step: registers, place, memory, fault, op, touch, whether it wrote, whether it calls. -/
inductive StepP (xs : List Wn) (rs : List Int) (pc : Int) (n : Nat) (D : Nat → List Int) (cy : Int) : List Int → Int → (Nat → List Int) → Int → Int → Int → Bool → Bool → Prop
  | ft (v r : Int) (hd : RdP xs n D pc 4 4 v r) (hr : ¬ r = 0) : StepP xs rs pc n D cy rs pc D r (-1) (-1) false false
  | no (v : Int) (hd : RdP xs n D pc 4 4 v 0) (hq : Is.instrOk (v / 67108864) (v / 4194304 % 16) (v / 262144 % 16) (v / 16384 % 16) (Is.sx (v % 16384)) = false) : StepP xs rs pc n D cy rs pc D 4 (-1) (-1) false false
  | ca (v : Int) (hd : RdP xs n D pc 4 4 v 0) (hq : Is.instrOk (v / 67108864) (v / 4194304 % 16) (v / 262144 % 16) (v / 16384 % 16) (Is.sx (v % 16384)) = true) (h : 25 ≤ v / 67108864) : StepP xs rs pc n D cy rs pc D 0 (v / 67108864) (-1) false true
  | act (v m op : Int) (A B C : Nat) (rs' : List Int) (pc' : Int) (D' : Nat → List Int) (fa to : Int) (wr : Bool) (hd : RdP xs n D pc 4 4 v 0) (hq : Is.instrOk (v / 67108864) (v / 4194304 % 16) (v / 262144 % 16) (v / 16384 % 16) (Is.sx (v % 16384)) = true)
      (ho : v / 67108864 = op) (hA : v / 4194304 % 16 = (A : Int)) (hB : v / 262144 % 16 = (B : Int)) (hC : v / 16384 % 16 = (C : Int)) (hm : Is.sx (v % 16384) = m) (h : DoP xs rs pc n D cy A B C m op rs' pc' D' fa to wr) : StepP xs rs pc n D cy rs' pc' D' fa op to wr false
theorem StepP.ex {xs : List Wn} {rs : List Int} {n : Nat} {D : Nat → List Int} (hg : GOk xs rs n D) (hb8 : ∀ i, i < n → ∀ z ∈ D i, (Lit.int .u8 z).wf = true) (pc cy : Int) :
    ∃ rs' pc' D' fa op to wr ca, StepP xs rs pc n D cy rs' pc' D' fa op to wr ca ∧ rs'.length = rs.length ∧ ∀ i, (D' i).length = (D i).length := by
  obtain ⟨v, r, hd⟩ := RdP.ex hg pc 4 4
  obtain ⟨v0, v1⟩ := rd_rng hd hb8
  by_cases hr : r = 0
  · subst hr
    cases hq : Is.instrOk (v / 67108864) (v / 4194304 % 16) (v / 262144 % 16) (v / 16384 % 16) (Is.sx (v % 16384))
    · exact ⟨_, _, _, _, _, _, _, _, .no v hd hq, rfl, fun _ => rfl⟩
    · by_cases h : 25 ≤ v / 67108864
      · exact ⟨_, _, _, _, _, _, _, _, .ca v hd hq h, rfl, fun _ => rfl⟩
      · obtain ⟨rs', pc', D', fa, to, wr, hp, h1, h2⟩ := DoP.ex hg pc cy (v / 4194304 % 16).toNat (v / 262144 % 16).toNat (v / 16384 % 16).toNat (Is.sx (v % 16384)) (v / 67108864) (by omega) (by omega)
        exact ⟨_, _, _, _, _, _, _, _, .act v _ _ _ _ _ rs' pc' D' fa to wr hd hq rfl (by omega) (by omega) (by omega) rfl hp, h1, h2⟩
  · exact ⟨_, _, _, _, _, _, _, _, .ft v r hd hr, rfl, fun _ => rfl⟩
theorem sx_rng (y : Int) (h0 : 0 ≤ y) (h1 : y < 16384) : -8192 ≤ Is.sx y ∧ Is.sx y ≤ 8191 := by
  unfold Is.sx; split <;> omega
theorem spec_step {xs : List Wn} {rs rs' : List Int} {n : Nat} {D D' : Nat → List Int} {pc pc' cy fa op to : Int} {wr ca : Bool} (h : StepP xs rs pc n D cy rs' pc' D' fa op to wr ca)
    (lo hi rc mc cap : Nat) (ra ma a : Option Addr) (w : World) (hg : GOk xs rs n D) (hb8 : ∀ i, i < n → ∀ z ∈ D i, (Lit.int .u8 z).wf = true) (hs : ASeg w a xs) (hsl : 0 < n → ∀ b off, a = some ⟨b, off, none⟩ → b < lo)
    (hS : Sep w lo hi ra ma rs n D) (hw : ∀ z ∈ rs, (Lit.int .u32 z).wf = true) (hp0 : 0 ≤ pc) (hp1 : pc ≤ 4294967295) (hlh : lo ≤ hi) (hhi : hi ≤ w.heap.size) :
    Calls Tryz.prog 20 #[.slice a n cap, gst ra 16 rc pc ma n mc, .int .i64 cy] w fun e w' => e = .returned (stp ra 16 rc pc' ma n mc fa op to wr ca) ∧ Betw lo hi w w' ∧ Sep w' lo hi ra ma rs' n D' := by
  have hl : rs.length = 16 := hg.2.1
  have hns : ∀ r : Int, ¬ r = 0 → (r == 0) = false := fun r h => beq_eq_false_iff_ne.2 h
  have hft : ∀ v r, RdP xs n D pc 4 4 v r → ∀ X, Below w.heap.size w X → Calls Tryz.prog 38 #[.slice a n cap, gst ra 16 rc pc ma n mc] X fun e w' => e = .returned (.tuple #[.int .u32 v, .int .i64 r]) ∧ Below X.heap.size X w' :=
    fun v r hd X hX => spec_fetch0 a ra ma cap 16 rc n mc pc v r xs rs D X (hs.below hX) (GSeg.below (Sep.seg hS) hX) hg hd hb8 (by omega)
  have hdc : ∀ v q, 0 ≤ v → v ≤ 4294967295 → Is.instrOk (v / 67108864) (v / 4194304 % 16) (v / 262144 % 16) (v / 16384 % 16) (Is.sx (v % 16384)) = q → ∀ X, Below w.heap.size w X → Calls Tryz.prog 39 #[.int .u32 v] X fun e w' => e = .returned (.tuple #[if q then Is.ins (v / 67108864) (v / 4194304 % 16) (v / 262144 % 16) (v / 16384 % 16) (Is.sx (v % 16384)) else Is.ins 0 0 0 0 0, .bool q]) ∧ Below X.heap.size X w' :=
    fun v q h0 h1 hq X hX => Is.spec_dec v q X h0 h1 hq
  cases h with
  | ft v r hd hr =>
    have hv : v = 0 := by
      obtain ⟨_, _, _, h⟩ := hd
      rcases h with ⟨_, e⟩ | ⟨e, _⟩
      · exact e
      · exact absurd e hr
    subst hv
    exact spFt lo hi rc n mc 0 0 0 cap ra ma a pc 0 cy 0 rs D w fa (hns _ hr) hS hl hw (by omega) (by omega) (by omega) (by omega) (by omega) hp0 hp1 hlh hhi (hft 0 fa hd)
  | no v hd hq =>
    obtain ⟨v0, v1⟩ := rd_rng hd hb8
    exact spNo lo hi rc n mc 0 0 0 cap ra ma a pc 0 cy v rs D w hS hl hw (by omega) (by omega) (by omega) (by omega) (by omega) hp0 hp1 hlh hhi (hft v 0 hd) (hdc v false v0 v1 hq)
  | ca v hd hq h25 =>
    obtain ⟨v0, v1⟩ := rd_rng hd hb8
    obtain ⟨A, hA⟩ := Int.eq_ofNat_of_zero_le (show 0 ≤ v / 4194304 % 16 by omega)
    obtain ⟨B, hB⟩ := Int.eq_ofNat_of_zero_le (show 0 ≤ v / 262144 % 16 by omega)
    obtain ⟨C, hC⟩ := Int.eq_ofNat_of_zero_le (show 0 ≤ v / 16384 % 16 by omega)
    have hx := sx_rng (v % 16384) (by omega) (by omega)
    have hd2 := hdc v true v0 v1 hq
    rw [hA, hB, hC] at hd2
    exact spCa lo hi rc n mc A B C cap ra ma a pc (Is.sx (v % 16384)) cy v rs D w (v / 67108864) h25 hS hl hw (by omega) (by omega) (by omega) hx.1 hx.2 hp0 hp1 hlh hhi (hft v 0 hd) hd2
  | act v m _ A B C _ _ _ _ _ _ hd hq ho hA hB hC hm h =>
    obtain ⟨v0, v1⟩ := rd_rng hd hb8
    have hx := sx_rng (v % 16384) (by omega) (by omega)
    rw [hm] at hx
    have hd2 := hdc v true v0 v1 hq
    rw [ho, hA, hB, hC, hm] at hd2
    have hd1 := hft v 0 hd
    have A1 : A ≤ 15 := by omega
    have B1 : B ≤ 15 := by omega
    have C1 : C ≤ 15 := by omega
    have had := addrR rs B m
    obtain ⟨a1, a2⟩ := wf_reg hw hl A (by omega)
    cases h with
    | nop => exact sp0 lo hi rc n mc A B C cap ra ma a pc m cy v rs D w hS hl hw A1 B1 C1 hx.1 hx.2 hp0 hp1 hlh hhi hd1 hd2
    | alu _ x h1 h2 h => exact spAlu lo hi rc n mc A B C cap ra ma a pc m cy v rs D w op x h1 h2 (by omega) h hS hl hw A1 B1 C1 hx.1 hx.2 hp0 hp1 hlh hhi hd1 hd2
    | alub _ x _ h1 h2 h hr => exact spAluB lo hi rc n mc A B C cap ra ma a pc m cy v rs D w op x fa h1 h2 (by omega) h (hns _ hr) hS hl hw A1 B1 C1 hx.1 hx.2 hp0 hp1 hlh hhi hd1 hd2
    | addi => exact sp13 lo hi rc n mc A B C cap ra ma a pc m cy v rs D w hS hl hw A1 B1 C1 hx.1 hx.2 hp0 hp1 hlh hhi hd1 hd2
    | lui => exact sp14 lo hi rc n mc A B C cap ra ma a pc m cy v rs D w hS hl hw A1 B1 C1 hx.1 hx.2 hp0 hp1 hlh hhi hd1 hd2
    | ld _ size x h hd3 =>
      have hfl := fun (hacc : AccP size 1) X (hX : Below w.heap.size w X) => fault_l hg hd3 hacc a cap X (hs.below hX) had
      have hgt := fun X (hX : Below w.heap.size w X) => get_s hg hd3 hb8 a ra ma cap 16 rc mc pc X (hs.below hX) (GSeg.below (Sep.seg hS) hX).2
      rcases h with ⟨rfl, rfl⟩ | ⟨rfl, rfl⟩
      · have := sp15 lo hi rc n mc A B C cap ra ma a pc m cy v rs D w (fun X hX => by rw [addrW]; exact hfl (by simp [AccP]) X hX) x (fun X hX => by rw [addrW]; exact hgt X hX) hS hl hw A1 B1 C1 hx.1 hx.2 hp0 hp1 hlh hhi hd1 hd2
        rw [addrW] at this
        exact this
      · have := sp17 lo hi rc n mc A B C cap ra ma a pc m cy v rs D w (fun X hX => by rw [addrW]; exact hfl (by simp [AccP]) X hX) x (fun X hX => by rw [addrW]; exact hgt X hX) hS hl hw A1 B1 C1 hx.1 hx.2 hp0 hp1 hlh hhi hd1 hd2
        rw [addrW] at this
        exact this
    | ldb _ size x _ h hd3 hr =>
      have hfl := fun (hacc : AccP size 1) X (hX : Below w.heap.size w X) => fault_l hg hd3 hacc a cap X (hs.below hX) had
      rcases h with ⟨rfl, rfl⟩ | ⟨rfl, rfl⟩
      · exact sp15b lo hi rc n mc A B C cap ra ma a pc m cy v rs D w fa (hns _ hr) (fun X hX => by rw [addrW]; exact hfl (by simp [AccP]) X hX) hS hl hw A1 B1 C1 hx.1 hx.2 hp0 hp1 hlh hhi hd1 hd2
      · exact sp17b lo hi rc n mc A B C cap ra ma a pc m cy v rs D w fa (hns _ hr) (fun X hX => by rw [addrW]; exact hfl (by simp [AccP]) X hX) hS hl hw A1 B1 C1 hx.1 hx.2 hp0 hp1 hlh hhi hd1 hd2
    | st _ size _ h hd3 =>
      have hd4 := hd3
      obtain ⟨vv, hrd, _⟩ := hd4
      have hfl := fun (hacc : AccP size 2) X (hX : Below w.heap.size w X) => fault_l hg hrd hacc a cap X (hs.below hX) had
      have hpt := fun X (hX : Below w.heap.size w X) (hSX : Sep X lo hi ra ma rs n D) => put_m hg hd3 a ra ma cap rc mc lo hi pc X hSX (hs.below hX) (hsl (rd_pos hrd)) had a1 a2
      rcases h with ⟨rfl, rfl⟩ | ⟨rfl, rfl⟩
      · have := sp16 lo hi rc n mc A B C cap ra ma a pc m cy v rs D w (fun X hX => by rw [addrW]; exact hfl (by simp [AccP]) X hX) D' (fun X hX hSX => by rw [addrW]; exact hpt X hX hSX) hS hl hw A1 B1 C1 hx.1 hx.2 hp0 hp1 hlh hhi hd1 hd2
        rw [addrW] at this
        exact this
      · have := sp18 lo hi rc n mc A B C cap ra ma a pc m cy v rs D w (fun X hX => by rw [addrW]; exact hfl (by simp [AccP]) X hX) D' (fun X hX hSX => by rw [addrW]; exact hpt X hX hSX) hS hl hw A1 B1 C1 hx.1 hx.2 hp0 hp1 hlh hhi hd1 hd2
        rw [addrW] at this
        exact this
    | stb _ size _ D1 h hd3 hr =>
      obtain ⟨vv, hrd, _⟩ := hd3
      have hfl := fun (hacc : AccP size 2) X (hX : Below w.heap.size w X) => fault_l hg hrd hacc a cap X (hs.below hX) had
      rcases h with ⟨rfl, rfl⟩ | ⟨rfl, rfl⟩
      · exact sp16b lo hi rc n mc A B C cap ra ma a pc m cy v rs D w fa (hns _ hr) (fun X hX => by rw [addrW]; exact hfl (by simp [AccP]) X hX) hS hl hw A1 B1 C1 hx.1 hx.2 hp0 hp1 hlh hhi hd1 hd2
      · exact sp18b lo hi rc n mc A B C cap ra ma a pc m cy v rs D w fa (hns _ hr) (fun X hX => by rw [addrW]; exact hfl (by simp [AccP]) X hX) hS hl hw A1 B1 C1 hx.1 hx.2 hp0 hp1 hlh hhi hd1 hd2
    | bry _ h ht =>
      rcases h with rfl | rfl | rfl
      · exact sp19t lo hi rc n mc A B C cap ra ma a pc m cy v rs D w ht hS hl hw A1 B1 C1 hx.1 hx.2 hp0 hp1 hlh hhi hd1 hd2
      · exact sp20t lo hi rc n mc A B C cap ra ma a pc m cy v rs D w ht hS hl hw A1 B1 C1 hx.1 hx.2 hp0 hp1 hlh hhi hd1 hd2
      · exact sp21t lo hi rc n mc A B C cap ra ma a pc m cy v rs D w ht hS hl hw A1 B1 C1 hx.1 hx.2 hp0 hp1 hlh hhi hd1 hd2
    | brn _ h ht =>
      rcases h with rfl | rfl | rfl
      · exact sp19f lo hi rc n mc A B C cap ra ma a pc m cy v rs D w ht hS hl hw A1 B1 C1 hx.1 hx.2 hp0 hp1 hlh hhi hd1 hd2
      · exact sp20f lo hi rc n mc A B C cap ra ma a pc m cy v rs D w ht hS hl hw A1 B1 C1 hx.1 hx.2 hp0 hp1 hlh hhi hd1 hd2
      · exact sp21f lo hi rc n mc A B C cap ra ma a pc m cy v rs D w ht hS hl hw A1 B1 C1 hx.1 hx.2 hp0 hp1 hlh hhi hd1 hd2
    | jal => exact sp22 lo hi rc n mc A B C cap ra ma a pc m cy v rs D w hS hl hw A1 B1 C1 hx.1 hx.2 hp0 hp1 hlh hhi hd1 hd2
    | jr => exact sp23 lo hi rc n mc A B C cap ra ma a pc m cy v rs D w hS hl hw A1 B1 C1 hx.1 hx.2 hp0 hp1 hlh hhi hd1 hd2
    | rdc => exact sp24 lo hi rc n mc A B C cap ra ma a pc m cy v rs D w hS hl hw A1 B1 C1 hx.1 hx.2 hp0 hp1 hlh hhi hd1 hd2
end Go.Proofs.YtjlhkjiccibgdaaGreatDoor
