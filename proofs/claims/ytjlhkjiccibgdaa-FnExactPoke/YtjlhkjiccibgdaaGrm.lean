
/-
  A guest's memory, copied by the specification: rows of the call's own that read as those that came in. Conditions: rows and bytes are at most 1048576 together.
-/
import Derived.Test.YtjlhkjiccibgdaaBas
import Derived.Test.YtjlhkjiccibgdaaProg
import Derived.Test.YtjlhkjiccibgdaaGcp
namespace Go.Proofs.Ytjlhkjiccibgdaa
open Go.ChangeShapes Go.WideShapes Go.ChangeAt Go.RowKit Go.Deep
set_option linter.unusedVariables false

theorem bla_start (w : World) (D : Nat → List Int) (A : Nat → Option Addr) (C R : Nat → Nat) : Bla (w.alloc (.cells #[] 66)) w.heap.size (w.heap.size + 1) (.slice (some ⟨w.heap.size, 0, none⟩) 0 0) 0 D A C R :=
  ⟨by simp, own_empty w 66 w.heap.size rfl, fun g h => by simp [Value.ownBlock] at h; omega, fun i hi => absurd hi (by omega), fun i hi => absurd hi (by omega), fun i hi => absurd hi (by omega), fun i j hi => absurd hi (by omega)⟩
set_option maxHeartbeats 4000000 in
theorem spec_ram (ma : Option Addr) (n mc : Nat) (D : Nat → List Int) (w : World) (hs : BSeg w ma n D) (hn : n ≤ 1048576) (ht : btot D n ≤ 1048576) :
    Calls Try.prog 44 #[.slice ma n mc] w fun e w' => ∃ ma' mc', e = .returned (.slice ma' n mc') ∧ Below w.heap.size w w' ∧ BRows w' w.heap.size w'.heap.size ma' n D := by
  have HS : Hid (BSeg w ma n D ∧ btot D n ≤ 1048576) := ⟨hs, ht⟩
  clear hs ht
  obtain ⟨iR, hI⟩ := infoR'
  have HI : Hid _ := hI
  clear hI
  go_enter Try.func44, Try.ntmps44
  go_wp2
  go_loopw [3, 4] (fun v i wr => ∃ k : Nat, k ≤ n ∧ i = .int .i64 k ∧ Hid (Below w.heap.size w wr ∧ ∃ m A C R, Bla wr w.heap.size m v k D A C R)) (fun _ i _ => n - (intOf i).toNat)
  case atStart => exact ⟨0, by omega, rfl, (Below.refl _ _).alloc (Nat.le_refl _) _, _, fun _ => none, fun _ => 0, fun _ => 0, bla_start w D _ _ _⟩
  case round =>
    obtain ⟨k, hk, rfl, HU⟩ := hrel
    obtain ⟨hbel, m, A, C, R, hla⟩ := HU.out
    obtain ⟨av, cv, rfl⟩ := hla.form
    by_cases hkn : k < n
    · have hkn' : (k : Int) < (n : Int) := by omega
      obtain ⟨b1, o1, a1, c1, rfl, hbl1, e1, s1⟩ := BSeg.at HS.out.1 k hkn
      replace e1 := (hbel.cell (p := ⟨b1, o1 + k, none⟩) hbl1).trans e1
      have hlen : (D k).length ≤ 1048576 := Nat.le_trans (btot_row D hkn) HS.out.2
      have hal : Below wr.heap.size wr (wr.alloc (.cells #[] 5)) := (Below.refl _ _).alloc (Nat.le_refl _) _
      have HAL : Hid _ := hal
      have HSG : Hid (Seg .u8 (wr.alloc (.cells #[] 5)) a1 (D k)) := s1.below (hbel.trans (hal.mono hbel.size))
      have HON : Hid _ := own_empty wr 5 wr.heap.size rfl
      have HLE : Hid (wr.heap.size ≤ (wr.alloc (.cells #[] 5)).heap.size) := by show _ ≤ _; simp
      have HLA : Hid (Bla wr w.heap.size m (.slice av k cv) k D A C R ∧ Below w.heap.size w wr) := ⟨hla, hbel⟩
      obtain ⟨len, Hlen⟩ : ∃ len, Hid ((D k).length = len) := ⟨_, rfl⟩
      rw [Hlen.out] at e1 hlen
      replace e1 := cell_alloc_l (.cells #[] 5) e1
      clear hla HU s1 hbl1 hal hbel
      go_wp2_with (first | (at_builtin; (refine wpList_copy_nums numB _ rfl (.tmp 13) (.tmp 17) 66 rfl Try.underlying66 wr.heap.size (D k) a1 len c1 rfl rfl Hlen.out HON.out HLE.out HSG.out hlen ?_; intro g5 cp5 w5 hb5 hon5 hc5; have hbx := HAL.out.trans (hb5.mono (Nat.le_refl _)); have hby : Below w5.heap.size w5 (w5.alloc (.cells #[.slice (some ⟨g5, 0, none⟩) len cp5] 66)) := (Below.refl _ _).alloc (Nat.le_refl _) _; have hbz := hbx.trans (hby.mono hbx.size); have HX : Hid (Bla (w5.alloc (.cells #[.slice (some ⟨g5, 0, none⟩) len cp5] 66)) w.heap.size m (.slice av k cv) k D A C R ∧ Below w.heap.size w (w5.alloc (.cells #[.slice (some ⟨g5, 0, none⟩) len cp5] 66)) ∧ ON .u8 (w5.alloc (.cells #[.slice (some ⟨g5, 0, none⟩) len cp5] 66)) wr.heap.size (w5.alloc (.cells #[.slice (some ⟨g5, 0, none⟩) len cp5] 66)).heap.size (some ⟨g5, 0, none⟩) (D k) g5 ∧ len ≤ cp5) := ⟨HLA.out.1.below hbz, HLA.out.2.trans (hbz.mono HLA.out.2.size), (hon5.below hby).wide (Nat.le_refl _) (by simp), hc5⟩; have HOW : Hid _ := HX.out.1.own; clear hb5 hon5 hc5 hbx hby hbz)) | (at_builtin; (refine wpList_append_lies _ rfl (.tmp 12) (.tmp 19) 24 rfl w.heap.size 66 iR (.slice none 0 0) 1 24 Try.underlying24 HI.out.1 HI.out.2.1 HI.out.2.2.1 HI.out.2.2.2 rfl (by omega) _ _ _ rfl HOW.out _ 1 1 [.slice (some ⟨g5, 0, none⟩) len cp5] rfl rfl (news_at _ _ _ _ (by simp)) (one_slice _ _ _) (by omega) (by unfold maxLen; omega) (by omega) HX.out.2.1.size _ rfl ?_; intro g cap1 w9 hown1 hgrow hat hlt1; have HY : Hid _ := And.intro hown1 (And.intro hgrow (And.intro hat hlt1)); clear hown1 hgrow hat hlt1)))
      go_roundw
      case rel =>
        obtain ⟨hown1, hgrow, hat, hlt1⟩ := HY.out
        obtain ⟨hla, hbel, hon, hc⟩ := HX.out
        have hL := Hlen.out
        subst hL
        have hsz := HLA.out.1.mle
        have h2 := hla.step (some ⟨g5, 0, none⟩) cp5 g5 _ g cap1 (hon.wide (by have := HLA.out.2.size; omega) (Nat.le_refl _)) (fun h => by have := hon.range h; omega) hc hown1 hgrow hat rfl hlt1
        exact ⟨k + 1, by omega, by go_num, hbel.trans (grown_below hgrow (own_low hla.own) hbel.size), _, _, _, _, h2⟩
      case measure => simp [intOf]; omega
    · obtain rfl : k = n := by omega
      have HLA : Hid (Bla wr w.heap.size m (.slice av k cv) k D A C R ∧ Below w.heap.size w wr) := ⟨hla, hbel⟩
      clear hkn HU hla hbel
      go_wp2
      go_ret
      obtain ⟨a', c', e, hrows⟩ := HLA.out.1.rows
      cases e
      exact ⟨_, _, rfl, HLA.out.2, hrows.wide (Nat.le_refl _) HLA.out.1.mle⟩
end Go.Proofs.Ytjlhkjiccibgdaa
