
/-
  What the program's 'do' makes of a step's own guest at every op below the calls: what the relation says, or the fault as a panic with nothing written. Conditions: the guest is right for its windows, its registers are words, its memory bytes.
-/
import Derived.Test.YtjlhkjiccibgdaaGreatDoorCsp
import Derived.Test.YtjlhkjiccibgdaaGreatDoorCd0
import Derived.Test.YtjlhkjiccibgdaaGreatDoorCd15
import Derived.Test.YtjlhkjiccibgdaaGreatDoorCd16
import Derived.Test.YtjlhkjiccibgdaaGreatDoorCd17
import Derived.Test.YtjlhkjiccibgdaaGreatDoorCd18
import Derived.Test.YtjlhkjiccibgdaaGreatDoorCd19
import Derived.Test.YtjlhkjiccibgdaaGreatDoorCd22
import Derived.Test.YtjlhkjiccibgdaaGreatDoorCdAlu
namespace Go.Proofs.YtjlhkjiccibgdaaGreatDoor
open Go.ChangeShapes Go.WideShapes Go.ChangeAt Go.RowKit Go.Deep
set_option linter.unusedVariables false

theorem addr_rng (rs : List Int) (B : Nat) (m : Int) : 0 ≤ addrF rs B m ∧ addrF rs B m < 4294967296 := ⟨Int.emod_nonneg _ (by decide), Int.emod_lt_of_pos _ (by decide)⟩
theorem impl_do {xs : List Wn} {rs rs' : List Int} {n : Nat} {D D' : Nat → List Int} {pc pc' fa to op m cy : Int} {wr : Bool} {A B C : Nat} (h : DoP xs rs pc n D cy A B C m op rs' pc' D' fa to wr)
    (Sb lo mm hi rc mc cap : Nat) (ra ma a : Option Addr) (w : World) (hg : GOk xs rs n D) (hf : Fit xs) (hcp : n ≤ cap) (hb8 : ∀ i, i < n → ∀ z ∈ D i, (Lit.int .u8 z).wf = true) (hs : ASeg w a xs)
    (hB : Bk w Sb (srow ra 16 rc pc ma n mc 0 op (-1) false false)) (hS : OGst w lo mm hi ra ma rs n D) (hw : ∀ z ∈ rs, (Lit.int .u32 z).wf = true) (hA : A ≤ 15) (hBB : B ≤ 15) (hC : C ≤ 15) (hm0 : -8192 ≤ m) (hm1 : m ≤ 8191) (hp0 : 0 ≤ pc) (hp1 : pc ≤ 4294967295) (hSb : Sb < lo) (hlm : lo ≤ mm) (hmh : mm ≤ hi) (hhi : hi ≤ w.heap.size) :
    Calls Tryz.prog 56 #[.pointer (some ⟨Sb, 0, none⟩), .slice a n cap, Is.ins op A B C m, .int .i64 cy] w fun e w' =>
      (fa = 0 ∧ e = .returned (.tuple #[]) ∧ Betw Sb hi w w' ∧ Bk w' Sb (srow ra 16 rc pc' ma n mc 0 op to wr false) ∧ OGst w' lo mm hi ra ma rs' n D') ∨
      (¬ fa = 0 ∧ e = .panicked [fltP fa] ∧ Below w.heap.size w w' ∧ rs' = rs ∧ pc' = pc ∧ D' = D ∧ to = -1 ∧ wr = false) := by
  have hl : rs.length = 16 := hg.2.1
  have had := addr_rng rs B m
  obtain ⟨a1, a2⟩ := wf_reg hw hl A (by omega)
  have hns : ∀ r : Int, ¬ r = 0 → (r == 0) = false := fun r h => beq_eq_false_iff_ne.2 h
  have hns2 : ∀ k : Int, 1 ≤ op → op ≤ 12 → (k < 1 ∨ 12 < k) → (op == k) = false := fun k h1 h2 h => beq_eq_false_iff_ne.2 (by omega)
  cases h with
  | nop => exact (do0 Sb lo mm hi rc n mc A B C cap ra ma a pc m cy rs D w hB hS hl hw hA hBB hC hm0 hm1 hp0 hp1 hSb hlm hmh hhi).mono fun e w' h => .inl ⟨rfl, h⟩
  | alu _ x h1 h2 h =>
    exact (doAlu Sb lo mm hi rc n mc A B C cap ra ma a pc m cy rs D w op x (hns2 0 h1 h2 (by omega)) (hns2 13 h1 h2 (by omega)) (hns2 14 h1 h2 (by omega)) (hns2 17 h1 h2 (by omega)) (hns2 15 h1 h2 (by omega)) (hns2 18 h1 h2 (by omega)) (hns2 16 h1 h2 (by omega)) (hns2 19 h1 h2 (by omega)) (hns2 20 h1 h2 (by omega)) (hns2 21 h1 h2 (by omega)) (hns2 22 h1 h2 (by omega)) (hns2 23 h1 h2 (by omega)) (hns2 24 h1 h2 (by omega)) h hB hS hl hw hA hBB hC hm0 hm1 hp0 hp1 hSb hlm hmh hhi).mono fun e w' h => .inl ⟨rfl, h⟩
  | alub _ x _ h1 h2 h hr =>
    exact (doAluB Sb lo mm hi rc n mc A B C cap ra ma a pc m cy rs D w op x fa (hns2 0 h1 h2 (by omega)) (hns2 13 h1 h2 (by omega)) (hns2 14 h1 h2 (by omega)) (hns2 17 h1 h2 (by omega)) (hns2 15 h1 h2 (by omega)) (hns2 18 h1 h2 (by omega)) (hns2 16 h1 h2 (by omega)) (hns2 19 h1 h2 (by omega)) (hns2 20 h1 h2 (by omega)) (hns2 21 h1 h2 (by omega)) (hns2 22 h1 h2 (by omega)) (hns2 23 h1 h2 (by omega)) (hns2 24 h1 h2 (by omega)) h (hns _ hr) hB hS hl hw hA hBB hC hm0 hm1 hp0 hp1 hSb hlm hmh hhi).mono fun e w' h => .inr ⟨hr, h.1, h.2, rfl, rfl, rfl, rfl, rfl⟩
  | addi => exact (do13 Sb lo mm hi rc n mc A B C cap ra ma a pc m cy rs D w hB hS hl hw hA hBB hC hm0 hm1 hp0 hp1 hSb hlm hmh hhi).mono fun e w' h => .inl ⟨rfl, h⟩
  | lui => exact (do14 Sb lo mm hi rc n mc A B C cap ra ma a pc m cy rs D w hB hS hl hw hA hBB hC hm0 hm1 hp0 hp1 hSb hlm hmh hhi).mono fun e w' h => .inl ⟨rfl, h⟩
  | ld _ size v h hd =>
    have hld := fun X (hX : Below w.heap.size w X) => load_i hg hd hb8 a ra ma cap 16 rc mc pc X (hs.below hX) hf hcp (GSeg.below (OGst.seg hS) hX).2 had
    rcases h with ⟨rfl, rfl⟩ | ⟨rfl, rfl⟩
    · exact (do15 Sb lo mm hi rc n mc A B C cap ra ma a pc m cy rs D w hB hS hl hw hA hBB hC hm0 hm1 hp0 hp1 hSb hlm hmh hhi v hld).mono fun e w' h => .inl ⟨rfl, h⟩
    · exact (do17 Sb lo mm hi rc n mc A B C cap ra ma a pc m cy rs D w hB hS hl hw hA hBB hC hm0 hm1 hp0 hp1 hSb hlm hmh hhi v hld).mono fun e w' h => .inl ⟨rfl, h⟩
  | ldb _ size v _ h hd hr =>
    have hld := fun X (hX : Below w.heap.size w X) => load_ir hg hd (hns _ hr) a ra ma cap rc mc pc X (hs.below hX) hf hcp had
    rcases h with ⟨rfl, rfl⟩ | ⟨rfl, rfl⟩
    · exact (do15b Sb lo mm hi rc n mc A B C cap ra ma a pc m cy rs D w hB hS hl hw hA hBB hC hm0 hm1 hp0 hp1 hSb hlm hmh hhi fa hld).mono fun e w' h => .inr ⟨hr, h.1, h.2, rfl, rfl, rfl, rfl, rfl⟩
    · exact (do17b Sb lo mm hi rc n mc A B C cap ra ma a pc m cy rs D w hB hS hl hw hA hBB hC hm0 hm1 hp0 hp1 hSb hlm hmh hhi fa hld).mono fun e w' h => .inr ⟨hr, h.1, h.2, rfl, rfl, rfl, rfl, rfl⟩
  | st _ size _ h hd =>
    have hst := fun X (hX : Below w.heap.size w X) (hSX : OGst X lo mm hi ra ma rs n D) => store_i hg hd a ra ma cap rc mc lo mm hi pc X hSX hlm hmh (hs.below hX) hf hcp had a1 a2
    rcases h with ⟨rfl, rfl⟩ | ⟨rfl, rfl⟩
    · exact (do16 Sb lo mm hi rc n mc A B C cap ra ma a pc m cy rs D w hB hS hl hw hA hBB hC hm0 hm1 hp0 hp1 hSb hlm hmh hhi D' hst).mono fun e w' h => .inl ⟨rfl, h⟩
    · exact (do18 Sb lo mm hi rc n mc A B C cap ra ma a pc m cy rs D w hB hS hl hw hA hBB hC hm0 hm1 hp0 hp1 hSb hlm hmh hhi D' hst).mono fun e w' h => .inl ⟨rfl, h⟩
  | stb _ size _ D1 h hd hr =>
    have hst := fun X (hX : Below w.heap.size w X) => store_ir hg hd (hns _ hr) a ra ma cap rc mc pc X (hs.below hX) hf hcp had
    rcases h with ⟨rfl, rfl⟩ | ⟨rfl, rfl⟩
    · exact (do16b Sb lo mm hi rc n mc A B C cap ra ma a pc m cy rs D w hB hS hl hw hA hBB hC hm0 hm1 hp0 hp1 hSb hlm hmh hhi fa hst).mono fun e w' h => .inr ⟨hr, h.1, h.2, rfl, rfl, rfl, rfl, rfl⟩
    · exact (do18b Sb lo mm hi rc n mc A B C cap ra ma a pc m cy rs D w hB hS hl hw hA hBB hC hm0 hm1 hp0 hp1 hSb hlm hmh hhi fa hst).mono fun e w' h => .inr ⟨hr, h.1, h.2, rfl, rfl, rfl, rfl, rfl⟩
  | bry _ h ht =>
    rcases h with rfl | rfl | rfl
    · exact (do19t Sb lo mm hi rc n mc A B C cap ra ma a pc m cy rs D w hB hS hl hw hA hBB hC hm0 hm1 hp0 hp1 hSb hlm hmh hhi ht).mono fun e w' h => .inl ⟨rfl, h⟩
    · exact (do20t Sb lo mm hi rc n mc A B C cap ra ma a pc m cy rs D w hB hS hl hw hA hBB hC hm0 hm1 hp0 hp1 hSb hlm hmh hhi ht).mono fun e w' h => .inl ⟨rfl, h⟩
    · exact (do21t Sb lo mm hi rc n mc A B C cap ra ma a pc m cy rs D w hB hS hl hw hA hBB hC hm0 hm1 hp0 hp1 hSb hlm hmh hhi ht).mono fun e w' h => .inl ⟨rfl, h⟩
  | brn _ h ht =>
    rcases h with rfl | rfl | rfl
    · exact (do19f Sb lo mm hi rc n mc A B C cap ra ma a pc m cy rs D w hB hS hl hw hA hBB hC hm0 hm1 hp0 hp1 hSb hlm hmh hhi ht).mono fun e w' h => .inl ⟨rfl, h⟩
    · exact (do20f Sb lo mm hi rc n mc A B C cap ra ma a pc m cy rs D w hB hS hl hw hA hBB hC hm0 hm1 hp0 hp1 hSb hlm hmh hhi ht).mono fun e w' h => .inl ⟨rfl, h⟩
    · exact (do21f Sb lo mm hi rc n mc A B C cap ra ma a pc m cy rs D w hB hS hl hw hA hBB hC hm0 hm1 hp0 hp1 hSb hlm hmh hhi ht).mono fun e w' h => .inl ⟨rfl, h⟩
  | jal => exact (do22 Sb lo mm hi rc n mc A B C cap ra ma a pc m cy rs D w hB hS hl hw hA hBB hC hm0 hm1 hp0 hp1 hSb hlm hmh hhi).mono fun e w' h => .inl ⟨rfl, h⟩
  | jr => exact (do23 Sb lo mm hi rc n mc A B C cap ra ma a pc m cy rs D w hB hS hl hw hA hBB hC hm0 hm1 hp0 hp1 hSb hlm hmh hhi).mono fun e w' h => .inl ⟨rfl, h⟩
  | rdc => exact (do24 Sb lo mm hi rc n mc A B C cap ra ma a pc m cy rs D w hB hS hl hw hA hBB hC hm0 hm1 hp0 hp1 hSb hlm hmh hhi).mono fun e w' h => .inl ⟨rfl, h⟩
end Go.Proofs.YtjlhkjiccibgdaaGreatDoor
