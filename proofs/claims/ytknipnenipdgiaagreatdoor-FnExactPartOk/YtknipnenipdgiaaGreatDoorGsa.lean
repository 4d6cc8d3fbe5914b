
/-
  What the laws' helpers on guests do: their measure, their copies, whether two read alike, the marks that are laid and looked up. Conditions: registers, rows and bytes are at most 1048576 together.
-/
import Derived.Test.YtknipnenipdgiaaGreatDoorProg
import Derived.Test.YtknipnenipdgiaaGreatDoorGrw
import Derived.Test.YtknipnenipdgiaaGreatDoorBas
namespace Go.Proofs.YtknipnenipdgiaaGreatDoor
open Go.ChangeShapes Go.WideShapes Go.ChangeAt Go.RowKit Go.Deep
set_option linter.unusedVariables false

abbrev gst (ra : Option Addr) (rl rc : Nat) (pc : Int) (ma : Option Addr) (ml mc : Nat) : Value := .agg #[.slice ra rl rc, .int .u32 pc, .slice ma ml mc]
/-- A guest whose registers begin at 'ra' and whose memory begins at 'ma' reads as 'rs' and 'n' rows 'D'. -/
def XGSeg (w : World) (ra ma : Option Addr) (rs : List Int) (n : Nat) (D : Nat → List Int) : Prop := Seg .u32 w ra rs ∧ BSeg w ma n D
/-- Such a guest lies in blocks of its own: registers from 'lo' on and below 'm', memory from 'm' on and below 'hi'. -/
def OGst (w : World) (lo m hi : Nat) (ra ma : Option Addr) (rs : List Int) (n : Nat) (D : Nat → List Int) : Prop := (∃ R, ON .u32 w lo m ra rs R) ∧ BRows w m hi ma n D
theorem XGSeg.below {w w' : World} {ra ma : Option Addr} {rs : List Int} {n : Nat} {D : Nat → List Int} (h : XGSeg w ra ma rs n D) (hb : Below w.heap.size w w') : XGSeg w' ra ma rs n D := ⟨h.1.below hb, h.2.below hb⟩
theorem OGst.seg {w : World} {lo m hi : Nat} {ra ma : Option Addr} {rs : List Int} {n : Nat} {D : Nat → List Int} (h : OGst w lo m hi ra ma rs n D) : XGSeg w ra ma rs n D := by
  obtain ⟨⟨R, h1⟩, h2⟩ := h
  exact ⟨h1.seg, h2.seg⟩
theorem ON.range {k : IntKind} {w : World} {lo hi : Nat} {a : Option Addr} {ws : List Int} {R : Nat} (h : ON k w lo hi a ws R) (h0 : 0 < ws.length) : lo ≤ R ∧ R < hi := by
  obtain ⟨_, _, h1, h2, _⟩ := h h0
  exact ⟨h1, h2⟩
theorem OGst.betw {w w' : World} {lo m hi l' h' : Nat} {ra ma : Option Addr} {rs : List Int} {n : Nat} {D : Nat → List Int} (h : OGst w lo m hi ra ma rs n D) (hb : Betw l' h' w w') (ho : hi ≤ l' ∨ h' ≤ lo) (h1 : lo ≤ m) (h2 : m ≤ hi) : OGst w' lo m hi ra ma rs n D := by
  obtain ⟨⟨R, hr⟩, hm⟩ := h
  exact ⟨⟨R, hr.betw hb (fun h0 => by have := hr.range h0; omega)⟩, hm.betw hb (by omega)⟩
theorem OGst.below {w w' : World} {lo m hi : Nat} {ra ma : Option Addr} {rs : List Int} {n : Nat} {D : Nat → List Int} (h : OGst w lo m hi ra ma rs n D) (hb : Below w.heap.size w w') : OGst w' lo m hi ra ma rs n D := by
  obtain ⟨⟨R, hr⟩, hm⟩ := h
  exact ⟨⟨R, hr.below hb⟩, hm.below hb⟩
theorem OGst.wide {w : World} {lo m hi l' h' : Nat} {ra ma : Option Addr} {rs : List Int} {n : Nat} {D : Nat → List Int} (h : OGst w lo m hi ra ma rs n D) (g1 : l' ≤ lo) (g2 : hi ≤ h') : OGst w l' m h' ra ma rs n D := by
  obtain ⟨⟨R, hr⟩, hm⟩ := h
  exact ⟨⟨R, hr.wide g1 (Nat.le_refl _)⟩, hm.wide (Nat.le_refl _) g2⟩
theorem cell_alloc_l {w : World} {p : Addr} {v : Value} (o : Obj) (h : w.cell? p = some v) : (w.alloc o).cell? p = some v := kept_cell ((Below.refl _ _).alloc (Nat.le_refl _) _) h
set_option maxHeartbeats 1000000 in
theorem eq_guest (pc : Int) (ra rb ma mb : Option Addr) (rl ca cb n da db : Nat) (rs : List Int) (D : Nat → List Int) (w : World) (ha : XGSeg w ra ma rs n D) (hb : XGSeg w rb mb rs n D) (hl : rs.length = rl) (hr : rl ≤ 1048576) (hn : n ≤ 1048576) (ht : btot D n ≤ 1048576) :
    Calls Tryz.prog 74 #[gst ra rl ca pc ma n da, gst rb rl cb pc mb n db] w fun e w' => e = .returned (.bool true) ∧ Below w.heap.size w w' := by
  have HA : Hid _ := And.intro ha (And.intro hb hl)
  clear ha hb hl
  have hbw : Below w.heap.size w ((w.alloc (.cells #[.slice ra rl ca, .int .u32 pc, .slice ma n da] 62)).alloc (.cells #[.slice rb rl cb, .int .u32 pc, .slice mb n db] 62)) := ((Below.refl _ w).alloc (Nat.le_refl _) _).alloc (by simp) _
  have B0 := (Bk.new w #[.slice ra rl ca, .int .u32 pc, .slice ma n da] 62 w.heap.size rfl).alloc (.cells #[.slice rb rl cb, .int .u32 pc, .slice mb n db] 62)
  have B1 := Bk.new (w.alloc (.cells #[.slice ra rl ca, .int .u32 pc, .slice ma n da] 62)) #[.slice rb rl cb, .int .u32 pc, .slice mb n db] 62 (w.heap.size + 1) (by simp)
  have HB : Hid _ := hbw
  clear hbw
  go_enter Tryz.func74, Tryz.ntmps74
  go_wp2_with fail
  refine (eq_regs ra rb ca cb rl rs _ (HA.out.1.1.below HB.out) (HA.out.2.1.1.below HB.out) HA.out.2.2 hr).mono ?_
  rintro u w1 ⟨rfl, hb1⟩
  have HB1 : Hid _ := HB.out.trans (hb1.mono HB.out.size)
  replace B0 := B0.below hb1
  replace B1 := B1.below hb1
  have c1 := B0.cell 1 _ rfl
  have c2 := B0.cell 2 _ rfl
  have d1 := B1.cell 1 _ rfl
  have d2 := B1.cell 2 _ rfl
  clear hb1 HB B0 B1
  go_wp2_with fail
  refine (eq_rows ma mb da db n D _ (HA.out.1.2.below HB1.out) (HA.out.2.1.2.below HB1.out) hn ht).mono ?_
  rintro u w2 ⟨rfl, hb2⟩
  have HB2 : Hid _ := HB1.out.trans (hb2.mono HB1.out.size)
  clear hb2 c1 c2 d1 d2
  go_wp2
  go_ret
  exact ⟨rfl, HB2.out⟩
set_option maxHeartbeats 1000000 in
theorem sz_guest (pc : Int) (ra ma : Option Addr) (rl ca n da L : Nat) (D : Nat → List Int) (w : World) (hs : BSeg w ma n D) (hr : rl ≤ 9223372036854775807) (hn : n ≤ 9223372036854775807) (hD : ∀ i, i < n → (D i).length ≤ 9223372036854775807) (hL : L ≤ 1048576) :
    Calls Tryz.prog 35 #[gst ra rl ca pc ma n da, .int .i64 (L : Int)] w fun e w' => (∃ r : Int, e = .returned (.int .i64 r) ∧ (r < 0 ∨ (0 ≤ r ∧ rl ≤ 1048576 ∧ n ≤ 1048576 ∧ btot D n ≤ 1048576))) ∧ Below w.heap.size w w' := by
  have HS : Hid _ := And.intro hs hD
  clear hs hD
  have hbw := (Below.refl _ w).alloc (Nat.le_refl _) (.cells #[.slice ra rl ca, .int .u32 pc, .slice ma n da] 36)
  have HC : Hid _ := fun (M : Nat) (hM : M ≤ 1048576) => sz_rows ma da n M D _ (BSeg.below HS.out.1 hbw) hn HS.out.2 hM
  have HB : Hid _ := hbw
  clear hbw
  go_enter Tryz.func35, Tryz.ntmps35
  go_wp2_with fail
  refine Calls.mono (sz_regs ra ca rl L _ hr hL) ?_
  rintro u w2 ⟨⟨r, rfl, hr⟩, rfl⟩
  rcases hr with hr | ⟨hr, hle⟩
  · go_wp2
    go_ret
    exact ⟨⟨_, rfl, .inl (by omega)⟩, HB.out⟩
  · have hr0 : ¬ (((L - rl : Nat) : Int) < 0) := by omega
    obtain ⟨M, HM⟩ : ∃ M, Hid (L - rl = M) := ⟨_, rfl⟩
    rw [HM.out] at hr hr0
    subst hr
    have hM : M ≤ 1048576 := by have := HM.out; omega
    go_wp2_with fail
    refine Calls.mono (HC.out M hM) ?_
    rintro u w3 ⟨⟨r, rfl, hr⟩, rfl⟩
    have hm := HM.out
    rcases hr with hr | ⟨hr, h1, h2⟩
    · clear hm
      go_wp2
      go_ret
      exact ⟨⟨_, rfl, .inl (by omega)⟩, HB.out⟩
    · have hr0' : ¬ (r < 0) := by omega
      have HX : Hid (0 ≤ r ∧ rl ≤ 1048576 ∧ n ≤ 1048576 ∧ btot D n ≤ 1048576) := ⟨hr, by omega, by omega, by omega⟩
      clear hr h1 h2 hm
      go_wp2
      go_ret
      exact ⟨⟨_, rfl, .inr HX.out⟩, HB.out⟩
set_option maxHeartbeats 1000000 in
theorem mark_guest (pc : Int) (lo m hi ca n da k rl : Nat) (ra ma : Option Addr) (rs : List Int) (D : Nat → List Int) (w : World) (ho : OGst w lo m hi ra ma rs n D) (hl : rs.length = rl) (hr : rl ≤ 1048576) (hn : n ≤ 1048576) (ht : btot D n ≤ 1048576) (hk1 : k ≤ 8000000) (hhi : hi ≤ w.heap.size) (hlm : lo ≤ m) (hmh : m ≤ hi) :
    Calls Tryz.prog 92 #[gst ra rl ca pc ma n da, .int .i64 (k : Int)] w fun e w' => e = .returned (.int .i64 ((k + rl + btot D n : Nat) : Int)) ∧ Betw lo hi w w' ∧ OGst w' lo m hi ra ma (marksM 4294967296 k rl) n (bmarkD (k + rl) D) := by
  obtain ⟨⟨R, hR⟩, hm⟩ := ho
  have hbw := (Below.refl _ w).alloc (Nat.le_refl _) (.cells #[.slice ra rl ca, .int .u32 pc, .slice ma n da] 62)
  have B0 := Bk.new w #[.slice ra rl ca, .int .u32 pc, .slice ma n da] 62 w.heap.size rfl
  have HC : Hid _ := mark_regs lo m R ca k rl ra rs _ (hR.below hbw) hl hr (by omega)
  have HR : Hid (0 < rl → lo ≤ R ∧ R < m) := fun h0 => hR.range (by omega)
  have HM : Hid (BRows _ _ _ _ _ _) := hm.below hbw
  have HB : Hid _ := hbw
  clear hR hm hbw
  go_enter Tryz.func92, Tryz.ntmps92
  go_wp2_with fail
  refine Calls.mono HC.out ?_
  rintro u w2 ⟨rfl, hb2, hs2, hor, he⟩
  have hb2' : Betw lo m (w.alloc (.cells #[.slice ra rl ca, .int .u32 pc, .slice ma n da] 62)) w2 := by
    by_cases e0 : rl = 0
    · rw [he e0]; exact Betw.refl _ _ _
    · have := HR.out (by omega)
      exact hb2.wide this.1 (by omega)
  replace B0 := B0.betw hb2' (.inr (by omega))
  have c2 := B0.cell 2 _ rfl
  have HD : Hid _ := mark_rows m hi da (k + rl) n ma D _ (HM.out.betw hb2' (.inr (Nat.le_refl _))) hn ht (by omega)
  have HX : Hid _ := And.intro ((Below.betw HB.out : Betw lo m w _).trans hb2') hor
  clear hb2 hs2 hor he hb2' B0 HB HM HC
  have hK : k + rl ≤ 10000000 := by omega
  obtain ⟨K, HK⟩ : ∃ K, Hid (k + rl = K) := ⟨_, rfl⟩
  rw [HK.out] at HD hK ⊢
  go_wp2_with fail
  refine Calls.mono HD.out ?_
  rintro u w3 ⟨rfl, hb3, hs3, hor⟩
  have HY : Hid _ := And.intro hb3 hor
  clear hb3 hs3 hor
  go_wp2
  go_ret
  refine ⟨ret_int (by rw [HK.out]; rfl), (HX.out.1.wide (Nat.le_refl _) hmh).trans (HY.out.1.wide hlm (Nat.le_refl _)), ⟨R, ?_⟩, by rw [HK.out]; exact HY.out.2⟩
  refine HX.out.2.betw HY.out.1 (fun h0 => ?_)
  rw [marksM_len] at h0
  have := HR.out h0
  omega
set_option maxHeartbeats 1000000 in
theorem held_guest (pc : Int) (ca n da k rl : Nat) (ra ma : Option Addr) (D : Nat → List Int) (w : World) (hs : XGSeg w ra ma (marksM 4294967296 k rl) n (bmarkD (k + rl) D)) (hr : rl ≤ 1048576) (hn : n ≤ 1048576) (ht : btot D n ≤ 1048576) (hk1 : k ≤ 8000000) :
    Calls Tryz.prog 98 #[gst ra rl ca pc ma n da, .int .i64 (k : Int)] w fun e w' => e = .returned (.int .i64 ((k + rl + btot D n : Nat) : Int)) ∧ Below w.heap.size w w' := by
  have hbw := (Below.refl _ w).alloc (Nat.le_refl _) (.cells #[.slice ra rl ca, .int .u32 pc, .slice ma n da] 62)
  have B0 := Bk.new w #[.slice ra rl ca, .int .u32 pc, .slice ma n da] 62 w.heap.size rfl
  have HC : Hid _ := held_regs ra ca rl k _ (hs.1.below hbw) hr (by omega)
  have HS : Hid (BSeg _ _ _ _) := hs.2.below hbw
  have HB : Hid _ := hbw
  clear hs hbw
  go_enter Tryz.func98, Tryz.ntmps98
  go_wp2_with fail
  refine Calls.mono HC.out ?_
  rintro u w2 ⟨rfl, hb2⟩
  replace B0 := B0.below hb2
  have c2 := B0.cell 2 _ rfl
  have HB2 : Hid _ := HB.out.trans (hb2.mono HB.out.size)
  have HD : Hid _ := held_rows da (k + rl) n ma D _ (BSeg.below HS.out hb2) hn ht (by omega)
  clear hb2 B0 HB HS HC
  have hK : k + rl ≤ 10000000 := by omega
  obtain ⟨K, HK⟩ : ∃ K, Hid (k + rl = K) := ⟨_, rfl⟩
  rw [HK.out] at HD hK ⊢
  have hK0 : ¬ ((K : Int) < 0) := by omega
  go_wp2_with fail
  refine Calls.mono HD.out ?_
  rintro u w3 ⟨rfl, hb3⟩
  have HB3 : Hid _ := HB2.out.trans (hb3.mono HB2.out.size)
  clear hb3 c2
  have hK2 : K + btot D n ≤ 12000000 := by omega
  obtain ⟨K2, HK2⟩ : ∃ K2, Hid (K + btot D n = K2) := ⟨_, rfl⟩
  rw [HK2.out] at hK2 ⊢
  have hK20 : ¬ ((K2 : Int) < 0) := by omega
  go_wp2
  go_ret
  exact ⟨ret_int (by rw [HK.out, HK2.out]), HB3.out⟩
set_option maxHeartbeats 1000000 in
theorem to_guest (pc : Int) (ra ma : Option Addr) (rl ca n da : Nat) (rs : List Int) (D : Nat → List Int) (w : World) (hs : XGSeg w ra ma rs n D) (hl : rs.length = rl) (hr : rl ≤ 1048576) (hn : n ≤ 1048576) (ht : btot D n ≤ 1048576) :
    Calls Tryz.prog 54 #[gst ra rl ca pc ma n da] w fun e w' => ∃ ra' ma' m, e = .returned (gst ra' rl rl pc ma' n n) ∧ Below w.heap.size w w' ∧ OGst w' w.heap.size m w'.heap.size ra' ma' rs n D ∧ w.heap.size ≤ m ∧ m ≤ w'.heap.size := by
  have HS : Hid _ := And.intro hs hl
  clear hs hl
  have B0 := ((Bk.new w #[.slice ra rl ca, .int .u32 pc, .slice ma n da] 36 w.heap.size rfl).alloc (.cells #[.slice none 0 0, .int .u32 0, .slice none 0 0] 62)).alloc (.cells #[.slice none 0 0, .int .u32 0, .slice none 0 0] 62)
  have B1 := (Bk.new (w.alloc (.cells #[.slice ra rl ca, .int .u32 pc, .slice ma n da] 36)) #[.slice none 0 0, .int .u32 0, .slice none 0 0] 62 (w.heap.size + 1) (by simp)).alloc (.cells #[.slice none 0 0, .int .u32 0, .slice none 0 0] 62)
  have B2 := Bk.new ((w.alloc (.cells #[.slice ra rl ca, .int .u32 pc, .slice ma n da] 36)).alloc (.cells #[.slice none 0 0, .int .u32 0, .slice none 0 0] 62)) #[.slice none 0 0, .int .u32 0, .slice none 0 0] 62 (w.heap.size + 1 + 1) (by simp)
  have HB : Hid _ := (((Below.refl _ w).alloc (Nat.le_refl _) (.cells #[.slice ra rl ca, .int .u32 pc, .slice ma n da] 36)).alloc (by simp) (.cells #[.slice none 0 0, .int .u32 0, .slice none 0 0] 62)).alloc (by simp; omega) (.cells #[.slice none 0 0, .int .u32 0, .slice none 0 0] 62)
  have HC : Hid _ := to_regs ra ca rl rs _ (HS.out.1.1.below HB.out) HS.out.2 hr
  go_enter Tryz.func54, Tryz.ntmps54
  go_wp2_with fail
  refine Calls.mono HC.out ?_
  rintro u w1 ⟨rfl, hb1, how⟩
  have e1 : (((w.alloc (.cells #[.slice ra rl ca, .int .u32 pc, .slice ma n da] 36)).alloc (.cells #[.slice none 0 0, .int .u32 0, .slice none 0 0] 62)).alloc (.cells #[.slice none 0 0, .int .u32 0, .slice none 0 0] 62)).heap.size = w.heap.size + 1 + 1 + 1 := by simp
  rw [e1] at how hb1
  replace B0 := B0.below (e1 ▸ hb1)
  replace B1 := B1.below (e1 ▸ hb1)
  replace B2 := B2.below (e1 ▸ hb1)
  have hbw : Below w.heap.size w w1 := HB.out.trans (hb1.mono (by omega))
  have hz1 : w.heap.size + 1 + 1 + 1 < w1.heap.size := how.lt
  obtain ⟨B, HBB⟩ : ∃ B, Hid (w.heap.size + 1 + 1 + 1 = B) := ⟨_, rfl⟩
  simp only [e1, HBB.out] at how hz1 ⊢
  have hBl : w.heap.size + 1 + 1 < B := by have := HBB.out; omega
  clear HB HC hb1 e1
  have k0 := B2.cell 0 _ rfl
  have kf := B2.free
  have p1 := (B0.other (w.heap.size + 1 + 1) 0 (.slice (some ⟨B, 0, none⟩) rl rl) (by omega)).cell 1 _ rfl
  have C2 := B2.set 0 (.slice (some ⟨B, 0, none⟩) rl rl) (by simp) rfl
  have k1 := C2.cell 1 _ rfl
  have E2 := C2.set 1 (.int .u32 pc) (by simp) rfl
  have E1 := (B1.other (w.heap.size + 1 + 1) 0 (.slice (some ⟨B, 0, none⟩) rl rl) (by omega)).other (w.heap.size + 1 + 1) 1 (.int .u32 pc) (by omega)
  have E0 := (B0.other (w.heap.size + 1 + 1) 0 (.slice (some ⟨B, 0, none⟩) rl rl) (by omega)).other (w.heap.size + 1 + 1) 1 (.int .u32 pc) (by omega)
  have p2 := E0.cell 2 _ rfl
  have hbt : Betw (w.heap.size + 1 + 1) (w.heap.size + 1 + 1 + 1) w1 ((w1.setCell ⟨w.heap.size + 1 + 1, 0, none⟩ (.slice (some ⟨B, 0, none⟩) rl rl)).setCell ⟨w.heap.size + 1 + 1, 1, none⟩ (.int .u32 pc)) :=
    ((Betw.refl _ _ w1).setCell (p := ⟨w.heap.size + 1 + 1, 0, none⟩) (Nat.le_refl _) (by simp) _).setCell (p := ⟨w.heap.size + 1 + 1, 1, none⟩) (Nat.le_refl _) (by simp) _
  have hon : ON .u32 w1 w.heap.size (B + 1) (some ⟨B, 0, none⟩) rs B := ON.own how (by omega) (by omega)
  have HN : Hid (ON _ _ _ _ _ _ _) := hon.betw hbt (fun _ => .inr (by have := HBB.out; omega))
  have HK : Hid _ := And.intro E1 (And.intro E2 (hbw.trans (hbt.below (by omega) hbw.size)))
  clear B0 B1 B2 C2 E0 E1 E2 hbt hon how hbw
  go_wp2_with fail
  refine Calls.mono (to_rows ma da n D _ (HS.out.1.2.below HK.out.2.2) hn ht) ?_
  rintro u w2 ⟨rfl, hb2, hrows⟩
  obtain ⟨C1, C2, hbw2⟩ := HK.out
  have hz : ((w1.setCell ⟨w.heap.size + 1 + 1, 0, none⟩ (.slice (some ⟨B, 0, none⟩) rl rl)).setCell ⟨w.heap.size + 1 + 1, 1, none⟩ (.int .u32 pc)).heap.size = w1.heap.size := by simp
  have hN2 := ON.below HN.out hb2
  rw [hz] at hrows hb2
  have hsz2 := hb2.size
  rw [hz] at hsz2
  have D1 := C1.below (hz ▸ hb2)
  have D2 := C2.below (hz ▸ hb2)
  have hbw3 := hbw2.trans (hb2.mono (by omega))
  simp only [hz]
  obtain ⟨B', HB'⟩ : ∃ B', Hid (w1.heap.size = B') := ⟨_, rfl⟩
  simp only [HB'.out] at hrows hz1 hsz2 ⊢
  have E2 := D2.set 2 (.slice (some ⟨B', 0, none⟩) n n) (by simp) rfl
  have E1 := D1.other (w.heap.size + 1 + 1) 2 (.slice (some ⟨B', 0, none⟩) n n) (by omega)
  have F1 := E1.set 0 (.slice (some ⟨B, 0, none⟩) rl rl) (by simp) rfl
  have F2 := F1.set 1 (.int .u32 pc) (by simp) rfl
  have F3 := F2.set 2 (.slice (some ⟨B', 0, none⟩) n n) (by simp) rfl
  have q3 := D2.cell 2 _ rfl
  have g2 := D2.free
  have g1 := D1.free
  have e0 := E2.cell 0 _ rfl
  have e1 := E2.cell 1 _ rfl
  have e2 := E2.cell 2 _ rfl
  have m0 := E1.cell 0 _ rfl
  have m1 := F1.cell 1 _ rfl
  have m2 := F2.cell 2 _ rfl
  have n0 := F3.cell 0 _ rfl
  have n1 := F3.cell 1 _ rfl
  have n2 := F3.cell 2 _ rfl
  have HZ : Hid (BRows _ _ _ _ _ _ ∧ Below _ _ _ ∧ ON _ _ _ _ _ _ _) := And.intro hrows (And.intro hbw3 hN2)
  clear C1 C2 hbw2 hb2 D1 D2 E1 E2 F1 F2 F3 HK hrows hbw3 hz k0 k1 kf hN2 p1 p2 HN
  go_wp2
  refine bodyPost_ret (v := gst (some ⟨B, 0, none⟩) rl rl pc (some ⟨B', 0, none⟩) n n) (by simp [results, Tryz.results54, go_sem, n0, n1, n2]) rfl ⟨_, _, B', rfl, ?_, ?_, ?_, ?_⟩
  · exact (((HZ.out.2.1.setCell (p := ⟨w.heap.size + 1 + 1, 2, none⟩) (by simp; omega) _).setCell (p := ⟨w.heap.size + 1, 0, none⟩) (by simp) _).setCell (p := ⟨w.heap.size + 1, 1, none⟩) (by simp) _).setCell (p := ⟨w.heap.size + 1, 2, none⟩) (by simp) _
  · have hbt := ((((Betw.refl (w.heap.size + 1) (w.heap.size + 1 + 1 + 1) w2).setCell (p := ⟨w.heap.size + 1 + 1, 2, none⟩) (by simp) (by simp) (.slice (some ⟨B', 0, none⟩) n n)).setCell (p := ⟨w.heap.size + 1, 0, none⟩) (by simp) (by simp) (.slice (some ⟨B, 0, none⟩) rl rl)).setCell (p := ⟨w.heap.size + 1, 1, none⟩) (by simp) (by simp) (.int .u32 pc)).setCell (p := ⟨w.heap.size + 1, 2, none⟩) (by simp) (by simp) (.slice (some ⟨B', 0, none⟩) n n)
    exact ⟨⟨B, (ON.betw HZ.out.2.2 hbt (fun _ => .inr (by omega))).wide (Nat.le_refl _) (by omega)⟩, (HZ.out.1.betw hbt (.inr (by omega))).wide (by omega) (by simp)⟩
  · omega
  · simpa using hsz2
end Go.Proofs.YtknipnenipdgiaaGreatDoor
