/-
  A guest's memory, copied by the specification: rows of the call's own that read as those that came in. Conditions: rows and bytes are at most 1048576 together.
  A guest's copy, by the specification: a guest of the call's own that reads as the one that came in. Conditions: registers, rows and bytes are at most 1048576 together.
-/
import Derived.Test.YtjlhkjiccibgdaaGreatDoorProg
import Derived.Test.YtjlhkjiccibgdaaGreatDoorGcp
namespace Go.Proofs.YtjlhkjiccibgdaaGreatDoor
open Go.ChangeShapes Go.WideShapes Go.ChangeAt Go.RowKit Go.Deep
set_option linter.unusedVariables false

theorem bla_start (w : World) (D : Nat → List Int) (A : Nat → Option Addr) (C R : Nat → Nat) : Bla (w.alloc (.cells #[] 61)) w.heap.size (w.heap.size + 1) (.slice (some ⟨w.heap.size, 0, none⟩) 0 0) 0 D A C R :=
  ⟨by simp, own_empty w 61 w.heap.size rfl, fun g h => by simp [Value.ownBlock] at h; omega, fun i hi => absurd hi (by omega), fun i hi => absurd hi (by omega), fun i hi => absurd hi (by omega), fun i j hi => absurd hi (by omega)⟩
set_option maxHeartbeats 4000000 in
theorem spec_ram (ma : Option Addr) (n mc : Nat) (D : Nat → List Int) (w : World) (hs : BSeg w ma n D) (hn : n ≤ 1048576) (ht : btot D n ≤ 1048576) :
    Calls Tryz.prog 47 #[.slice ma n mc] w fun e w' => ∃ ma' mc', e = .returned (.slice ma' n mc') ∧ Below w.heap.size w w' ∧ BRows w' w.heap.size w'.heap.size ma' n D := by
  have HS : Hid (BSeg w ma n D ∧ btot D n ≤ 1048576) := ⟨hs, ht⟩
  clear hs ht
  obtain ⟨iR, hI⟩ := infoR'
  have HI : Hid _ := hI
  clear hI
  go_enter Tryz.func47, Tryz.ntmps47
  go_wp2
  go_loopw [3, 4] (fun v i wr => ∃ k : Nat, k ≤ n ∧ i = .int .i64 k ∧ Hid (Below w.heap.size w wr ∧ ∃ m A C R, Bla wr w.heap.size m v k D A C R)) (fun _ i _ => n - (intOf i).toNat)
  case atStart => exact ⟨0, by omega, rfl, (Below.refl _ _).alloc (Nat.le_refl _) _, _, fun _ => none, fun _ => 0, fun _ => 0, bla_start w D _ _ _⟩
  case round =>
    obtain ⟨k, hk, rfl, HU⟩ := hrel
    obtain ⟨hbel, m, A, C, R, hla⟩ := HU.out
    obtain ⟨av, cv, rfl⟩ := hla.form
    by_cases hkn : k < n
    · have hkn' : (k : Int) < (n : Int) := by omega
      obtain ⟨b1, o1, a1, c1, rfl, hbl1, e1, s1⟩ := BSeg.at HS.out.1 k hkn
      replace e1 := (hbel.cell (p := ⟨b1, o1 + k, none⟩) hbl1).trans e1
      have hlen : (D k).length ≤ 1048576 := Nat.le_trans (btot_row D hkn) HS.out.2
      have hal : Below wr.heap.size wr (wr.alloc (.cells #[] 5)) := (Below.refl _ _).alloc (Nat.le_refl _) _
      have HAL : Hid _ := hal
      have HSG : Hid (Seg .u8 (wr.alloc (.cells #[] 5)) a1 (D k)) := s1.below (hbel.trans (hal.mono hbel.size))
      have HON : Hid _ := own_empty wr 5 wr.heap.size rfl
      have HLE : Hid (wr.heap.size ≤ (wr.alloc (.cells #[] 5)).heap.size) := by show _ ≤ _; simp
      have HLA : Hid (Bla wr w.heap.size m (.slice av k cv) k D A C R ∧ Below w.heap.size w wr) := ⟨hla, hbel⟩
      obtain ⟨len, Hlen⟩ : ∃ len, Hid ((D k).length = len) := ⟨_, rfl⟩
      rw [Hlen.out] at e1 hlen
      replace e1 := cell_alloc_l (.cells #[] 5) e1
      clear hla HU s1 hbl1 hal hbel
      go_wp2_with (first | (at_builtin; (refine wpList_copy_nums numB _ rfl (.tmp 13) (.tmp 17) 61 rfl Tryz.underlying61 wr.heap.size (D k) a1 len c1 rfl rfl Hlen.out HON.out HLE.out HSG.out hlen ?_; intro g5 cp5 w5 hb5 hon5 hc5; have hbx := HAL.out.trans (hb5.mono (Nat.le_refl _)); have hby : Below w5.heap.size w5 (w5.alloc (.cells #[.slice (some ⟨g5, 0, none⟩) len cp5] 61)) := (Below.refl _ _).alloc (Nat.le_refl _) _; have hbz := hbx.trans (hby.mono hbx.size); have HX : Hid (Bla (w5.alloc (.cells #[.slice (some ⟨g5, 0, none⟩) len cp5] 61)) w.heap.size m (.slice av k cv) k D A C R ∧ Below w.heap.size w (w5.alloc (.cells #[.slice (some ⟨g5, 0, none⟩) len cp5] 61)) ∧ ON .u8 (w5.alloc (.cells #[.slice (some ⟨g5, 0, none⟩) len cp5] 61)) wr.heap.size (w5.alloc (.cells #[.slice (some ⟨g5, 0, none⟩) len cp5] 61)).heap.size (some ⟨g5, 0, none⟩) (D k) g5 ∧ len ≤ cp5) := ⟨HLA.out.1.below hbz, HLA.out.2.trans (hbz.mono HLA.out.2.size), (hon5.below hby).wide (Nat.le_refl _) (by simp), hc5⟩; have HOW : Hid _ := HX.out.1.own; clear hb5 hon5 hc5 hbx hby hbz)) | (at_builtin; (refine wpList_append_lies _ rfl (.tmp 12) (.tmp 19) 25 rfl w.heap.size 61 iR (.slice none 0 0) 1 24 Tryz.underlying25 HI.out.1 HI.out.2.1 HI.out.2.2.1 HI.out.2.2.2 rfl (by omega) _ _ _ rfl HOW.out _ 1 1 [.slice (some ⟨g5, 0, none⟩) len cp5] rfl rfl (news_at _ _ _ _ (by simp)) (one_slice _ _ _) (by omega) (by unfold maxLen; omega) (by omega) HX.out.2.1.size _ rfl ?_; intro g cap1 w9 hown1 hgrow hat hlt1; have HY : Hid _ := And.intro hown1 (And.intro hgrow (And.intro hat hlt1)); clear hown1 hgrow hat hlt1)))
      go_roundw
      case rel =>
        obtain ⟨hown1, hgrow, hat, hlt1⟩ := HY.out
        obtain ⟨hla, hbel, hon, hc⟩ := HX.out
        have hL := Hlen.out
        subst hL
        have hsz := HLA.out.1.mle
        have h2 := hla.step (some ⟨g5, 0, none⟩) cp5 g5 _ g cap1 (hon.wide (by have := HLA.out.2.size; omega) (Nat.le_refl _)) (fun h => by have := hon.range h; omega) hc hown1 hgrow hat rfl hlt1
        exact ⟨k + 1, by omega, by go_num, hbel.trans (grown_below hgrow (own_low hla.own) hbel.size), _, _, _, _, h2⟩
      case measure => simp [intOf]; omega
    · obtain rfl : k = n := by omega
      have HLA : Hid (Bla wr w.heap.size m (.slice av k cv) k D A C R ∧ Below w.heap.size w wr) := ⟨hla, hbel⟩
      clear hkn HU hla hbel
      go_wp2
      go_ret
      obtain ⟨a', c', e, hrows⟩ := HLA.out.1.rows
      cases e
      exact ⟨_, _, rfl, HLA.out.2, hrows.wide (Nat.le_refl _) HLA.out.1.mle⟩
end Go.Proofs.YtjlhkjiccibgdaaGreatDoor
namespace Go.Proofs.YtjlhkjiccibgdaaGreatDoor
open Go.ChangeShapes Go.WideShapes Go.ChangeAt Go.RowKit Go.Deep
set_option linter.unusedVariables false

theorem st1 {w : World} {b c i j : Nat} {v u : Value} (hne : b ≠ c) (h : w.cell? ⟨b, i, none⟩ = some v) : (w.setCell ⟨c, j, none⟩ u).cell? ⟨b, i, none⟩ = some v := by
  rw [World.cell?_setCell_other _ _ _ _ (by intro c'; injection c' with c1 c2 c3; exact hne c1.symm)]; exact h
/-- A guest of the call's own, its registers apart from its memory. -/
def Sep (w : World) (lo hi : Nat) (ra ma : Option Addr) (rs : List Int) (n : Nat) (D : Nat → List Int) : Prop :=
  ∃ l2 h2, lo ≤ l2 ∧ h2 ≤ hi ∧ BRows w l2 h2 ma n D ∧ ∃ R, ON .u32 w lo hi ra rs R ∧ (0 < rs.length → R < l2 ∨ h2 ≤ R)
theorem OGst.sep {w : World} {lo m hi : Nat} {ra ma : Option Addr} {rs : List Int} {n : Nat} {D : Nat → List Int} (h : OGst w lo m hi ra ma rs n D) (h1 : lo ≤ m) (h2 : m ≤ hi) : Sep w lo hi ra ma rs n D := by
  obtain ⟨⟨R, hr⟩, hm⟩ := h
  exact ⟨m, hi, h1, Nat.le_refl _, hm, R, hr.wide (Nat.le_refl _) h2, fun h0 => .inl (hr.range h0).2⟩
theorem Sep.seg {w : World} {lo hi : Nat} {ra ma : Option Addr} {rs : List Int} {n : Nat} {D : Nat → List Int} (h : Sep w lo hi ra ma rs n D) : GSeg w ra ma rs n D := by
  obtain ⟨l2, h2, _, _, hm, R, hr, _⟩ := h
  exact ⟨hr.seg, hm.seg⟩
theorem Sep.below {w w' : World} {lo hi : Nat} {ra ma : Option Addr} {rs : List Int} {n : Nat} {D : Nat → List Int} (h : Sep w lo hi ra ma rs n D) (hb : Below w.heap.size w w') : Sep w' lo hi ra ma rs n D := by
  obtain ⟨l2, h2, g1, g2, hm, R, hr, g3⟩ := h
  exact ⟨l2, h2, g1, g2, hm.below hb, R, hr.below hb, g3⟩
theorem Sep.betw {w w' : World} {lo hi l' h' : Nat} {ra ma : Option Addr} {rs : List Int} {n : Nat} {D : Nat → List Int} (h : Sep w lo hi ra ma rs n D) (hb : Betw l' h' w w') (ho : hi ≤ l' ∨ h' ≤ lo) : Sep w' lo hi ra ma rs n D := by
  obtain ⟨l2, h2, g1, g2, hm, R, hr, g3⟩ := h
  exact ⟨l2, h2, g1, g2, hm.betw hb (by omega), R, hr.betw hb (fun h0 => by have := hr.range h0; omega), g3⟩
theorem Sep.wide {w : World} {lo hi l' h' : Nat} {ra ma : Option Addr} {rs : List Int} {n : Nat} {D : Nat → List Int} (h : Sep w lo hi ra ma rs n D) (k1 : l' ≤ lo) (k2 : hi ≤ h') : Sep w l' h' ra ma rs n D := by
  obtain ⟨l2, h2, g1, g2, hm, R, hr, g3⟩ := h
  exact ⟨l2, h2, by omega, by omega, hm, R, hr.wide k1 k2, g3⟩
theorem drew_lt {w : World} {k : Nat} (h : k < w.heap.size) : k < w.drew.heap.size := h
/-- What is known in the specification's copy: the guest that came in lies in a block, the answer in the next. -/
def LC (w X : World) (cs : Array Value) : Prop := Bk X w.heap.size cs ∧ Bk X (w.heap.size + 1) #[.slice none 0 0, .int .u32 0, .slice none 0 0] ∧ Below w.heap.size w X
theorem LC.next {w X Y : World} {cs : Array Value} (h : LC w X cs) (hb : Below X.heap.size X Y) : LC w Y cs := ⟨h.1.below hb, h.2.1.below hb, h.2.2.trans (hb.mono h.2.2.size)⟩
theorem LC.drew {w X : World} {cs : Array Value} (h : LC w X cs) : LC w X.drew cs := h.next (Below.refl _ _).drew
theorem LC.alloc {w X : World} {cs : Array Value} (h : LC w X cs) (o : Obj) : LC w (X.alloc o) cs := h.next ((Below.refl _ _).alloc (Nat.le_refl _) _)
theorem LC.betw {w X Y : World} {cs : Array Value} {B : Nat} (h : LC w X cs) (hb : Betw B (B + 1) X Y) (hB : w.heap.size + 1 < B) : LC w Y cs := ⟨h.1.betw hb (.inl (by omega)), h.2.1.betw hb (.inl (by omega)), h.2.2.trans (hb.below (by omega) h.2.2.size)⟩
theorem lc_next {w X Y : World} {cs : Array Value} (hb : Below X.heap.size X Y) (h : LC w X cs) : LC w Y cs := h.next hb
theorem lc_betw {w X Y : World} {cs : Array Value} {B : Nat} (hb : Betw B (B + 1) X Y) (h : LC w X cs) (hB : w.heap.size + 1 < B) : LC w Y cs := h.betw hb hB
theorem own_next {X Y : World} {e : TypeId} {B : Nat} {v : Value} (hb : Below X.heap.size X Y) (h : X.ownsRow B e 1 v 0 []) : Y.ownsRow B e 1 v 0 [] := ownsRow_below h hb
theorem on_next {k : IntKind} {X Y : World} {lo hi : Nat} {a : Option Addr} {zs : List Int} {R : Nat} (hb : Below X.heap.size X Y) (h : ON k X lo hi a zs R) : ON k Y lo hi a zs R := h.below hb
set_option maxRecDepth 20000 in
set_option maxHeartbeats 4000000 in
theorem spec_copy (pc : Int) (ra ma : Option Addr) (rl rc n mc : Nat) (rs : List Int) (D : Nat → List Int) (w : World) (hs : GSeg w ra ma rs n D) (hl : rs.length = rl) (hr : rl ≤ 1048576) (hn : n ≤ 1048576) (ht : btot D n ≤ 1048576) :
    Calls Tryz.prog 21 #[gst ra rl rc pc ma n mc] w fun e w' => ∃ ra' ma' rc' mc', e = .returned (gst ra' rl rc' pc ma' n mc') ∧ Below w.heap.size w w' ∧ Sep w' w.heap.size w'.heap.size ra' ma' rs n D := by
  have HS : Hid (GSeg w ra ma rs n D ∧ rs.length = rl) := ⟨hs, hl⟩
  have HRAM : Hid (∀ X, Below w.heap.size w X → Calls Tryz.prog 47 #[.slice ma n mc] X fun e w' => ∃ ma' mc', e = .returned (.slice ma' n mc') ∧ Below X.heap.size X w' ∧ BRows w' X.heap.size w'.heap.size ma' n D) := fun X hX => spec_ram ma n mc D X (hs.2.below hX) hn ht
  have HSG : Hid (∀ X, Below w.heap.size w X → Seg .u32 X ra rs) := fun X hX => hs.1.below hX
  clear hs hl ht
  have hlc : LC w ((w.alloc (.cells #[.slice ra rl rc, .int .u32 pc, .slice ma n mc] 30)).alloc (.cells #[.slice none 0 0, .int .u32 0, .slice none 0 0] 30)) #[.slice ra rl rc, .int .u32 pc, .slice ma n mc] :=
    ⟨(Bk.new w _ 30 w.heap.size rfl).alloc _, Bk.new _ _ 30 (w.heap.size + 1) (by simp), ((Below.refl _ w).alloc (Nat.le_refl _) _).alloc (by simp) _⟩
  have HLC : Hid (LC _ _ _) := hlc
  have c0 := hlc.1.cell 0 _ rfl
  have c1 := hlc.1.cell 1 _ rfl
  have c2 := hlc.1.cell 2 _ rfl
  clear hlc
  have HL1 : Hid (LC w (((w.alloc (.cells #[.slice ra rl rc, .int .u32 pc, .slice ma n mc] 30)).alloc (.cells #[.slice none 0 0, .int .u32 0, .slice none 0 0] 30)).alloc (.cells #[] 24)).drew #[.slice ra rl rc, .int .u32 pc, .slice ma n mc]) := LC.drew (LC.alloc HLC.out _)
  have HON : Hid (((((w.alloc (.cells #[.slice ra rl rc, .int .u32 pc, .slice ma n mc] 30)).alloc (.cells #[.slice none 0 0, .int .u32 0, .slice none 0 0] 30)).alloc (.cells #[] 24)).drew).ownsRow (w.heap.size + 1 + 1) 24 1 (.slice (some ⟨w.heap.size + 1 + 1, 0, none⟩) 0 0) 0 []) := own_next (Below.refl _ _).drew (own_empty ((w.alloc (.cells #[.slice ra rl rc, .int .u32 pc, .slice ma n mc] 30)).alloc (.cells #[.slice none 0 0, .int .u32 0, .slice none 0 0] 30)) 24 (w.heap.size + 1 + 1) (by simp))
  have HLE : Hid (w.heap.size + 1 + 1 < ((((w.alloc (.cells #[.slice ra rl rc, .int .u32 pc, .slice ma n mc] 30)).alloc (.cells #[.slice none 0 0, .int .u32 0, .slice none 0 0] 30)).alloc (.cells #[] 24)).drew).heap.size) := drew_lt (by simp)
  have HSX : Hid (Seg .u32 ((((w.alloc (.cells #[.slice ra rl rc, .int .u32 pc, .slice ma n mc] 30)).alloc (.cells #[.slice none 0 0, .int .u32 0, .slice none 0 0] 30)).alloc (.cells #[] 24)).drew) ra rs) := HSG.out _ HL1.out.2.2
  go_enter Tryz.func21, Tryz.ntmps21
  go_wp2
  go_region_held_law (fun w' => w'.cell? ⟨w.heap.size, 0, none⟩ = some (.slice ra rl rc) ∧ w'.cell? ⟨w.heap.size, 1, none⟩ = some (.int .u32 pc) ∧ w'.cell? ⟨w.heap.size, 2, none⟩ = some (.slice ma n mc)) (first | exact ⟨c0, c1, c2⟩ | exact ⟨cell_alloc_l _ c0, cell_alloc_l _ c1, cell_alloc_l _ c2⟩ | exact ⟨st1 (by omega) (st1 (by omega) (st1 (by omega) c0)), st1 (by omega) (st1 (by omega) (st1 (by omega) c1)), st1 (by omega) (st1 (by omega) (st1 (by omega) c2))⟩)
    (first | (refine step_copy_nums numU _ rfl (.tmp 3) (.tmp 5) 23 rfl Tryz.underlying23 (w.heap.size + 1 + 1) rs ra rl rc rfl rfl HS.out.2 HON.out (Nat.le_of_lt HLE.out) HSX.out hr (some 6) rfl ?_; intro g5 cp5 w5 hb5 hg5 hon5 hc5; have HL5 : Hid (LC w w5 _) := lc_betw hb5 HL1.out (by omega); have HON5 : Hid (ON .u32 w5 (w.heap.size + 1 + 1) w5.heap.size (some ⟨g5, 0, none⟩) rs g5) := hon5; replace c0 := HL5.out.1.cell 0 _ rfl; replace c1 := HL5.out.1.cell 1 _ rfl; replace c2 := HL5.out.1.cell 2 _ rfl; clear hb5 hg5 hon5 hc5) | (go_at_call 47; refine Calls.mono (HRAM.out _ (by first | exact HL5.out.2.2 | exact (LC.drew HL5.out).2.2)) ?_; rintro u w7 ⟨ma7, mc7, rfl, hb7, hrows7⟩; have HL7 : Hid (LC w w7 _) := lc_next hb7 (by first | exact HL5.out | exact LC.drew HL5.out); have HR7 : Hid (BRows w7 w5.heap.size w7.heap.size ma7 n D ∧ ON .u32 w7 (w.heap.size + 1 + 1) w5.heap.size (some ⟨g5, 0, none⟩) rs g5 ∧ w5.heap.size ≤ w7.heap.size) := And.intro hrows7 (And.intro (on_next hb7 (fun h => HON5.out h)) hb7.size); replace c0 := HL7.out.1.cell 0 _ rfl; replace c1 := HL7.out.1.cell 1 _ rfl; replace c2 := HL7.out.1.cell 2 _ rfl; have d0 := HL7.out.2.1.cell 0 _ rfl; have d1 := (HL7.out.2.1.set 0 (.slice (some ⟨g5, 0, none⟩) rl cp5) (by simp) rfl).cell 1 _ rfl; have d2 := ((HL7.out.2.1.set 0 (.slice (some ⟨g5, 0, none⟩) rl cp5) (by simp) rfl).set 1 (.int .u32 pc) (by simp) rfl).cell 2 _ rfl; have df := HL7.out.2.1.free; clear hb7 hrows7))
  have G2 := ((HL7.out.2.1.set 0 (.slice (some ⟨g5, 0, none⟩) rl cp5) (by simp) rfl).set 1 (.int .u32 pc) (by simp) rfl).set 2 (.slice ma7 n mc7) (by simp) rfl
  have n0 := G2.cell 0 _ rfl
  have n1 := G2.cell 1 _ rfl
  have n2 := G2.cell 2 _ rfl
  clear G2 c0 c1 c2 d0 d1 d2 df
  go_wp2
  refine bodyPost_ret (v := gst (some ⟨g5, 0, none⟩) rl cp5 pc ma7 n mc7) (by simp [results, Tryz.results21, go_sem, n0, n1, n2]) rfl ⟨_, _, _, _, rfl, ?_, ?_⟩
  · exact ((HL7.out.2.2.setCell (p := ⟨w.heap.size + 1, 0, none⟩) (by simp) _).setCell (p := ⟨w.heap.size + 1, 1, none⟩) (by simp) _).setCell (p := ⟨w.heap.size + 1, 2, none⟩) (by simp) _
  · have hbt := (((Betw.refl (w.heap.size + 1) (w.heap.size + 1 + 1) w7).setCell (p := ⟨w.heap.size + 1, 0, none⟩) (by simp) (by simp) (.slice (some ⟨g5, 0, none⟩) rl cp5)).setCell (p := ⟨w.heap.size + 1, 1, none⟩) (by simp) (by simp) (.int .u32 pc)).setCell (p := ⟨w.heap.size + 1, 2, none⟩) (by simp) (by simp) (.slice ma7 n mc7)
    obtain ⟨h1, h2, h3⟩ := HR7.out
    have hz := HL5.out.2.1.lt
    exact ⟨w5.heap.size, w7.heap.size, by omega, by simp, h1.betw hbt (.inr (by omega)), g5, (h2.betw hbt (fun h0 => .inr (h2.range h0).1)).wide (by omega) (by simpa using h3), fun h0 => .inl (h2.range h0).2⟩
end Go.Proofs.YtjlhkjiccibgdaaGreatDoor
