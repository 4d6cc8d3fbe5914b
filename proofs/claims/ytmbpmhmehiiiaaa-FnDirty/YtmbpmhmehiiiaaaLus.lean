
/-
  A use of a linked row: the way with the tag goes to the front, the one beyond the most is cut off. No conditions but those that each fact names.
-/
import Derived.Test.YtmbpmhmehiiiaaaRows
import Derived.Test.YtmbpmhmehiiiaaaLtk
import Derived.Deep.RegionHeld3
namespace Go.Proofs.Ytmbpmhmehiiiaaa
open Go.ChangeShapes Go.WideShapes Go.ChangeAt Go.RowKit Go.Deep
set_option linter.unusedVariables false

/-- What a use leaves of a row, whether it found the tag, and whether a dirty way went. -/
def usedT (ws : List Wy) (t : Int) : Wy := if posT ws t < ws.length then ws.getD (posT ws t) wd else wd
def usedFull (ws : List Wy) (t : Int) (wr : Bool) : List Wy := (t, (usedT ws t).2 || wr) :: ws.eraseIdx (posT ws t)
def usedRow (M : Nat) (ws : List Wy) (t : Int) (wr : Bool) : List Wy := (usedFull ws t wr).eraseIdx M
def usedHit (ws : List Wy) (t : Int) : Bool := decide (posT ws t < ws.length)
def usedBack (M : Nat) (ws : List Wy) (t : Int) (wr : Bool) : Bool := (if M < (usedFull ws t wr).length then (usedFull ws t wr).getD M wd else wd).2
theorem cell_drew' {w : World} {p : Addr} {v : Value} (h : w.cell? p = some v) : w.drew.cell? p = some v := h
theorem free_drew' {w : World} {p : Addr} (h : w.frozen? p = false) : w.drew.frozen? p = false := h
theorem new_free (w : World) (cs : Array Value) (t : TypeId) (i : Nat) : (w.alloc (.cells cs t)).frozen? ⟨w.heap.size, i, none⟩ = false := by simp
theorem chg_cell {ns : List Nat} {X w8 : World} {p : Addr} {v : Value} (h : Chg ns X w8) (hc : X.cell? p = some v) (hn : p.block ∉ ns) : w8.cell? p = some v :=
  (World.cell?_of_block (a := p) (h.block p.block (World.block_lt_of_cell? X _ hc) hn)).trans hc
theorem chg_free {ns : List Nat} {X w8 : World} {p : Addr} {v : Value} (h : Chg ns X w8) (hc : X.cell? p = some v) (hf : X.frozen? p = false) (hn : p.block ∉ ns) : w8.frozen? p = false :=
  (World.frozen?_of_block (a := p) (h.block p.block (World.block_lt_of_cell? X _ hc) hn)).trans hf
theorem kept_free {w w' : World} {p : Addr} {v : Value} (hb : Below w.heap.size w w') (h : w.cell? p = some v) (hf : w.frozen? p = false) : w'.frozen? p = false := (hb.frozen (World.block_lt_of_cell? w _ h)).trans hf
/-- What stands behind the first region, in whatever order it went. -/
structure FV (w : World) (hd : Nat) (bs bs1 : List Nat) (v0 : Wy) (ws1 : List Wy) (z : Int) (d : Bool) (V : World) (k : Nat) : Prop where
  var : Bk V k #[.int .i64 z, .bool d]
  box : Bk V w.heap.size #[.pointer (some ⟨hd, 0, none⟩)]
  row : LL V (hd :: bs1) (v0 :: ws1)
  chg : Chg (hd :: bs) w V
  far : w.heap.size < k
theorem FV.one {w W X w8 : World} {hd : Nat} {bs bs1 : List Nat} {v0 : Wy} {ws1 : List Wy} {z : Int} {d : Bool} (hW : Below w.heap.size w W) (hB : Bk W w.heap.size #[.pointer (some ⟨hd, 0, none⟩)]) (hX : Below W.heap.size W X) (hch : Chg (hd :: bs) X w8) (h8 : LL w8 (hd :: bs1) (v0 :: ws1)) (hn : w.heap.size ∉ hd :: bs) (T : TypeId) :
    FV w hd bs bs1 v0 ws1 z d (w8.alloc (.cells #[.int .i64 z, .bool d] T)) w8.heap.size := by
  have hal : Below w8.heap.size w8 (w8.alloc (.cells #[.int .i64 z, .bool d] T)) := (Below.refl _ _).alloc (Nat.le_refl _) _
  have hc : Chg (hd :: bs) w w8 := Chg.trans (ms := hd :: bs) (Below.chg (hW.trans (hX.mono hW.size))) hch (fun k hk => .inl hk)
  have hb8 := (hB.below hX).chg hch hn
  exact ⟨Bk.new w8 _ T w8.heap.size rfl, hb8.below hal, h8.below hal, Chg.trans (ms := []) hc (Below.chg hal) (fun k hk => absurd hk (by simp)), hb8.lt⟩
theorem blk_new {W w9 : World} (h : Below (W.alloc (.cells #[.int .i64 0, .bool false] 61)).drew.heap.size (W.alloc (.cells #[.int .i64 0, .bool false] 61)).drew w9) : w9.heap[W.heap.size]? = some (.cells #[.int .i64 0, .bool false] 61 (0, 0)) := by
  rw [h.block W.heap.size (by show _ < (W.alloc _).heap.size; simp)]
  show (W.heap.push _)[W.heap.size]? = _
  simp
theorem FV.two {w W X w8 : World} {hd k : Nat} {bs bs1 : List Nat} {v0 : Wy} {ws1 : List Wy} {z : Int} {d : Bool} (hW : Below w.heap.size w W) (hB : Bk W w.heap.size #[.pointer (some ⟨hd, 0, none⟩)]) (hX : Below W.heap.size W X) (hch : Chg (hd :: bs) X w8) (h8 : LL w8 (hd :: bs1) (v0 :: ws1)) (hn : ∀ j, w.heap.size ≤ j → j ∉ hd :: bs) (hs1 : ∀ j ∈ bs1, j ∈ bs) (hk : w.heap.size < k) (hXk : X.heap[k]? = some (.cells #[.int .i64 0, .bool false] 61 (0, 0))) :
    FV w hd bs bs1 v0 ws1 z d ((w8.setCell ⟨k, 0, none⟩ (.int .i64 z)).setCell ⟨k, 1, none⟩ (.bool d)) k := by
  have hc : Chg (hd :: bs) w w8 := Chg.trans (ms := hd :: bs) (Below.chg (hW.trans (hX.mono hW.size))) hch (fun k hk => .inl hk)
  have hb8 := (hB.below hX).chg hch (hn _ (Nat.le_refl _))
  have hkX : k < X.heap.size := by
    rcases Nat.lt_or_ge k X.heap.size with g | g
    · exact g
    · rw [Array.getElem?_eq_none g] at hXk; cases hXk
  have hv8 : Bk w8 k #[.int .i64 0, .bool false] := by
    have h0 : Bk X k #[.int .i64 0, .bool false] := ⟨hkX, fun i v e => by simp only [World.cell?, hXk]; simpa using e, fun i => by simp [World.frozen?, hXk]⟩
    exact h0.chg hch (hn k (by omega))
  have hc0 : Chg [k] w8 ((w8.setCell ⟨k, 0, none⟩ (.int .i64 z)).setCell ⟨k, 1, none⟩ (.bool d)) := ((Chg.refl _ w8).set _ 0 _ (by simp)).set _ 1 _ (by simp)
  refine ⟨(hv8.set 0 _ (by simp) rfl).set 1 _ (by simp) rfl, hb8.chg hc0 (fun c => by simp only [List.mem_singleton] at c; omega), h8.chg hc0 (fun j hj c => ?_), Chg.trans hc hc0 (fun j hj => by simp only [List.mem_singleton] at hj; subst hj; exact .inr (by omega)), hk⟩
  simp only [List.mem_singleton] at c
  subst c
  rcases List.mem_cons.1 hj with e | e
  · exact hn j (by omega) (by simp [e])
  · exact hn j (by omega) (List.mem_cons_of_mem _ (hs1 j e))
set_option maxHeartbeats 4000000 in
theorem row_use (hd M : Nat) (bs : List Nat) (v0 : Wy) (ws : List Wy) (t : Int) (wr : Bool) (w : World) (hL : LL w (hd :: bs) (v0 :: ws)) (hM : M ≤ 1000) :
    Calls Try.prog 30 #[rowV hd, .int .i64 (M : Int), .int .i64 t, .bool wr] w fun e w' => e = .returned (.tuple #[.bool (usedHit ws t), .bool (usedBack M ws t wr)]) ∧ ∃ bs', LL w' (hd :: bs') (v0 :: usedRow M ws t wr) ∧ Chg (hd :: bs) w w' ∧ ∀ k ∈ bs', k ∈ bs ∨ w.heap.size ≤ k := by
  have hal : Below w.heap.size w (w.alloc (.cells #[.pointer (some ⟨hd, 0, none⟩)] 66)) := (Below.refl _ _).alloc (Nat.le_refl _) _
  have B0 := Bk.new w #[.pointer (some ⟨hd, 0, none⟩)] 66 w.heap.size rfl
  have hlt := hL.lt
  have HTK : Hid (∀ X B, Below (w.alloc (.cells #[.pointer (some ⟨hd, 0, none⟩)] 66)).heap.size (w.alloc (.cells #[.pointer (some ⟨hd, 0, none⟩)] 66)) X → X.cell? ⟨B, 0, none⟩ = some (.int .i64 t) → Calls Try.prog 41 #[rowV hd, tagF B] X fun e w' => e = .returned (.tuple #[wayV (usedT ws t), .bool (usedHit ws t)]) ∧ LL w' (hd :: bs.eraseIdx (posT ws t)) (v0 :: ws.eraseIdx (posT ws t)) ∧ Chg (hd :: bs) X w') := fun X B hX hc => row_take hd B bs v0 ws t X ((hL.below hal).below hX) hc
  have HHT : Hid (∀ X, Calls Try.prog 34 #[.int .i64 t] X fun e w' => ∃ B, e = .returned (tagF B) ∧ Below X.heap.size X w' ∧ w'.cell? ⟨B, 0, none⟩ = some (.int .i64 t)) := fun X => has_tag' t X
  have HLT : Hid _ := hlt
  have HUF : Hid (usedFull ws t wr = (t, (usedT ws t).2 || wr) :: ws.eraseIdx (posT ws t)) := rfl
  have HSUB : Hid (∀ k ∈ bs.eraseIdx (posT ws t), k ∈ bs) := fun k hk => List.mem_of_mem_eraseIdx hk
  have HW0 : Hid _ := hal
  unfold usedRow usedBack
  generalize usedFull ws t wr = uf at HUF ⊢
  generalize usedT ws t = ut at HTK HUF
  generalize usedHit ws t = hit at HTK ⊢
  generalize bs.eraseIdx (posT ws t) = bs1 at HTK HSUB
  generalize ws.eraseIdx (posT ws t) = ws1 at HTK HUF
  obtain ⟨uz, ud⟩ := ut
  obtain ⟨back, HBK⟩ : ∃ back, Hid ((if M < uf.length then uf.getD M wd else wd).2 = back) := ⟨_, rfl⟩
  rw [HBK.out]
  have c0 : (w.alloc (.cells #[.pointer (some ⟨hd, 0, none⟩)] 66)).cell? ⟨w.heap.size, 0, none⟩ = some (.pointer (some ⟨hd, 0, none⟩)) := B0.cell 0 _ rfl
  have HB0 : Hid _ := B0
  have hb := Below.refl (w.alloc (.cells #[.pointer (some ⟨hd, 0, none⟩)] 66)).heap.size (w.alloc (.cells #[.pointer (some ⟨hd, 0, none⟩)] 66))
  clear hL hal B0 hlt
  go_enter Try.func30, Try.ntmps30
  go_wp2_with fail
  obtain ⟨W, HW⟩ : ∃ W, Hid (w.alloc (.cells #[.pointer (some ⟨hd, 0, none⟩)] 66) = W) := ⟨_, rfl⟩
  rw [HW.out] at HTK c0 HB0 hb HW0 ⊢
  have hWs : W.heap.size = w.heap.size + 1 := by rw [← HW.out]; simp
  clear HW
  have HNE : Hid (∀ k, W.heap.size ≤ k → k ∉ hd :: bs) := fun k hk c => by have := HLT.out _ c; omega
  have HNB : Hid (w.heap.size ∉ hd :: bs) := fun c => by have := HLT.out _ c; omega
  have HWS : Hid (W.heap.size = w.heap.size + 1) := hWs
  have hneW : ¬ (w.heap.size = W.heap.size) := by omega
  have HN9 : Hid (∀ k, W.heap.size ≤ k → ¬ (w.heap.size = k)) := fun k hk => by omega
  have c0W := cell_alloc_l (.cells #[.int .i64 0, .bool false] 61) c0
  clear hWs
  go_region_with (first
    | (go_at_call 34; refine Calls.mono (HHT.out _) ?_; rintro u w9 ⟨B9, rfl, hbb, c9⟩; (first | replace hb := hb.trans (hbb.mono hb.size) | replace hb := hb.drew.trans (hbb.mono hb.drew.size) | replace hb := (hb.drew.alloc hb.drew.size _).trans (hbb.mono (hb.drew.alloc hb.drew.size _).size) | replace hb := ((hb.alloc hb.size _).drew).trans (hbb.mono ((hb.alloc hb.size _).drew).size)); (first | replace c0 := kept_cell hbb c0 | replace c0 := kept_cell hbb (cell_alloc_l _ c0) | replace c0 := kept_cell hbb (cell_drew' (cell_alloc_l _ c0)) | replace c0 := kept_cell hbb (cell_drew' c0)); have hne9 := HN9.out _ hb.size; have c0' := cell_alloc_l (.cells #[.int .i64 0, .bool false] 61) c0; (first | have a4 := blk_new hbb | skip); (first | have a0 : w9.cell? ⟨W.heap.size, 0, none⟩ = some (.int .i64 0) := kept_cell hbb (cell_drew' (show (W.alloc (.cells #[.int .i64 0, .bool false] 61)).cell? ⟨W.heap.size, 0, none⟩ = some (.int .i64 0) from new_cell W _ 61 0 _ rfl)) | have a0 : w9.cell? ⟨W.heap.size, 0, none⟩ = some (.int .i64 0) := kept_cell hbb (show (W.alloc (.cells #[.int .i64 0, .bool false] 61)).cell? ⟨W.heap.size, 0, none⟩ = some (.int .i64 0) from new_cell W _ 61 0 _ rfl) | skip); (first | have a1 : w9.cell? ⟨W.heap.size, 1, none⟩ = some (.bool false) := kept_cell hbb (cell_drew' (show (W.alloc (.cells #[.int .i64 0, .bool false] 61)).cell? ⟨W.heap.size, 1, none⟩ = some (.bool false) from new_cell W _ 61 1 _ rfl)) | have a1 : w9.cell? ⟨W.heap.size, 1, none⟩ = some (.bool false) := kept_cell hbb (show (W.alloc (.cells #[.int .i64 0, .bool false] 61)).cell? ⟨W.heap.size, 1, none⟩ = some (.bool false) from new_cell W _ 61 1 _ rfl) | skip); (first | have a2 : w9.frozen? ⟨W.heap.size, 0, none⟩ = false := kept_free hbb (cell_drew' (show (W.alloc (.cells #[.int .i64 0, .bool false] 61)).cell? ⟨W.heap.size, 0, none⟩ = some (.int .i64 0) from new_cell W _ 61 0 _ rfl)) (free_drew' (new_free W #[.int .i64 0, .bool false] 61 0)) | have a2 : w9.frozen? ⟨W.heap.size, 0, none⟩ = false := kept_free hbb (show (W.alloc (.cells #[.int .i64 0, .bool false] 61)).cell? ⟨W.heap.size, 0, none⟩ = some (.int .i64 0) from new_cell W _ 61 0 _ rfl) (new_free W #[.int .i64 0, .bool false] 61 0) | skip); (first | have a3 : w9.frozen? ⟨W.heap.size, 1, none⟩ = false := kept_free hbb (cell_drew' (show (W.alloc (.cells #[.int .i64 0, .bool false] 61)).cell? ⟨W.heap.size, 1, none⟩ = some (.bool false) from new_cell W _ 61 1 _ rfl)) (free_drew' (new_free W #[.int .i64 0, .bool false] 61 1)) | have a3 : w9.frozen? ⟨W.heap.size, 1, none⟩ = false := kept_free hbb (show (W.alloc (.cells #[.int .i64 0, .bool false] 61)).cell? ⟨W.heap.size, 1, none⟩ = some (.bool false) from new_cell W _ 61 1 _ rfl) (new_free W #[.int .i64 0, .bool false] 61 1) | skip); clear hbb)
    | (go_at_call 41; refine Calls.mono (HTK.out _ _ (by first | exact hb | exact hb.drew | exact hb.alloc hb.size _ | exact (hb.alloc hb.size _).drew) (by first | exact c9 | exact cell_alloc_l _ c9)) ?_; rintro u w8 ⟨rfl, h8, hch⟩; (first | replace c0 := chg_cell hch c0 HNB.out | replace c0 := chg_cell hch (cell_alloc_l _ c0) HNB.out | replace c0 := chg_cell hch (cell_drew' (cell_alloc_l _ c0)) HNB.out); (first | have d0 : w8.cell? ⟨W.heap.size, 0, none⟩ = some (.int .i64 0) := chg_cell hch a0 (HNE.out _ (Nat.le_refl _)) | skip); (first | have d1 : w8.cell? ⟨W.heap.size, 1, none⟩ = some (.bool false) := chg_cell hch a1 (HNE.out _ (Nat.le_refl _)) | skip); (first | have d2 : w8.frozen? ⟨W.heap.size, 0, none⟩ = false := chg_free hch a0 a2 (HNE.out _ (Nat.le_refl _)) | skip); (first | have d3 : w8.frozen? ⟨W.heap.size, 1, none⟩ = false := chg_free hch a1 a3 (HNE.out _ (Nat.le_refl _)) | skip); (first | have e0 : w8.cell? ⟨w9.heap.size, 0, none⟩ = some (.int .i64 0) := chg_cell hch (show (w9.alloc (.cells #[.int .i64 0, .bool false] 61)).cell? ⟨w9.heap.size, 0, none⟩ = some (.int .i64 0) from new_cell w9 _ 61 0 _ rfl) (HNE.out _ hb.size) | skip); (first | have e1 : w8.cell? ⟨w9.heap.size, 1, none⟩ = some (.bool false) := chg_cell hch (show (w9.alloc (.cells #[.int .i64 0, .bool false] 61)).cell? ⟨w9.heap.size, 1, none⟩ = some (.bool false) from new_cell w9 _ 61 1 _ rfl) (HNE.out _ hb.size) | skip); (first | have e2 : w8.frozen? ⟨w9.heap.size, 0, none⟩ = false := chg_free hch (show (w9.alloc (.cells #[.int .i64 0, .bool false] 61)).cell? ⟨w9.heap.size, 0, none⟩ = some (.int .i64 0) from new_cell w9 _ 61 0 _ rfl) (new_free w9 #[.int .i64 0, .bool false] 61 0) (HNE.out _ hb.size) | skip); (first | have e3 : w8.frozen? ⟨w9.heap.size, 1, none⟩ = false := chg_free hch (show (w9.alloc (.cells #[.int .i64 0, .bool false] 61)).cell? ⟨w9.heap.size, 1, none⟩ = some (.bool false) from new_cell w9 _ 61 1 _ rfl) (new_free w9 #[.int .i64 0, .bool false] 61 1) (HNE.out _ hb.size) | skip); have HB8 : Hid _ := And.intro hb (And.intro h8 hch)))
  all_goals
    obtain ⟨hbX, h8X, hchX⟩ := HB8.out
    have hn9 : ∀ j, w.heap.size ≤ j → j ∉ hd :: bs := fun j hj c => by have := HLT.out _ c; omega
    have hw9 : w.heap.size < w9.heap.size := by have h1 := hbX.size; have h2 := HWS.out; omega
    have hwW : w.heap.size < W.heap.size := by have h2 := HWS.out; omega
    clear hb h8 hch c0 c0' c0W c9 hne9 hneW HB8
    first
    | (have hf := FV.two (z := uz) (d := ud) (k := w9.heap.size) HW0.out HB0.out (hbX.alloc hbX.size (.cells #[.int .i64 0, .bool false] 61)) hchX h8X hn9 HSUB.out hw9 (by show (w9.heap.push _)[w9.heap.size]? = _; simp)
       clear e0 e1 e2 e3
       generalize (w8.setCell ⟨w9.heap.size, 0, none⟩ (.int .i64 uz)).setCell ⟨w9.heap.size, 1, none⟩ (.bool ud) = V at hf ⊢
       generalize w9.heap.size = k at hf ⊢)
    | (have hf := FV.two (z := uz) (d := ud) (k := W.heap.size) HW0.out HB0.out hbX hchX h8X hn9 HSUB.out hwW a4
       clear a0 a1 a2 a3 a4 d0 d1 d2 d3
       generalize (w8.setCell ⟨W.heap.size, 0, none⟩ (.int .i64 uz)).setCell ⟨W.heap.size, 1, none⟩ (.bool ud) = V at hf ⊢
       generalize W.heap.size = k at hf ⊢)
    | (have hf := FV.one (z := uz) (d := ud) HW0.out HB0.out hbX hchX h8X HNB.out 61
       generalize w8.alloc (.cells #[.int .i64 uz, .bool ud] 61) = V at hf ⊢
       generalize w8.heap.size = k at hf ⊢)
  all_goals
    have c0 : V.cell? ⟨w.heap.size, 0, none⟩ = some (.pointer (some ⟨hd, 0, none⟩)) := hf.box.cell 0 _ rfl
    have k1 : V.cell? ⟨k, 1, none⟩ = some (.bool ud) := hf.var.cell 1 _ rfl
    have HF : Hid (FV w hd bs bs1 v0 ws1 uz ud V k) := hf
    clear hf hbX h8X hchX hn9 hw9 hwW
    cases ud
    · skip
      have HU2 : Hid (uf = (t, wr) :: ws1) := by show _ = _; rw [HUF.out]; simp
      go_wp2_with fail
      refine Calls.mono (row_push hd bs1 v0 (t, wr) ws1 V HF.out.row) ?_
      rintro u w10 ⟨rfl, c, hcs, h10, hch10⟩
      rw [← HU2.out] at h10
      have c10 : w10.cell? ⟨w.heap.size, 0, none⟩ = some (.pointer (some ⟨hd, 0, none⟩)) := (HF.out.box.chg hch10 (fun e => HNB.out (by simp only [List.mem_singleton] at e; simp [e]))).cell 0 _ rfl
      have HS10 : Hid _ := row_spill hd M (c :: bs1) v0 uf w10 h10 hM
      have H10 : Hid _ := And.intro hcs hch10
      obtain ⟨X, HX⟩ : ∃ X, Hid ((if M < uf.length then uf.getD M wd else wd) = X) := ⟨_, rfl⟩
      rw [HX.out] at HS10 HBK
      obtain ⟨xz, xd⟩ := X
      clear h10 hch10 c0 k1
      go_wp2_with fail
      refine Calls.mono HS10.out ?_
      rintro u w11 ⟨rfl, h11, hch11⟩
      have hal : Below w11.heap.size w11 (w11.alloc (.cells #[.int .i64 xz, .bool xd] 61)) := (Below.refl _ _).alloc (Nat.le_refl _) _
      have HZ : Hid (∃ bs', LL (w11.alloc (.cells #[.int .i64 xz, .bool xd] 61)) (hd :: bs') (v0 :: uf.eraseIdx M) ∧ Chg (hd :: bs) w (w11.alloc (.cells #[.int .i64 xz, .bool xd] 61)) ∧ ∀ k ∈ bs', k ∈ bs ∨ w.heap.size ≤ k) := by
        have hVs : w.heap.size ≤ V.heap.size := HF.out.chg.size
        have hsub := HSUB.out
        have h1 : Chg (hd :: bs) w w10 := Chg.trans HF.out.chg H10.out.2 (fun k hk => by simp only [List.mem_singleton] at hk; exact .inl (by simp [hk]))
        have h2 : Chg (hd :: bs) w w11 := Chg.trans h1 hch11 (fun k hk => by
          rcases List.mem_cons.1 hk with e | e
          · exact .inl (by simp [e])
          · rcases List.mem_cons.1 e with e | e
            · exact .inr (by have := H10.out.1; omega)
            · exact .inl (List.mem_cons_of_mem _ (hsub k e)))
        refine ⟨(c :: bs1).eraseIdx M, h11.below hal, Chg.trans (ms := []) h2 (Below.chg hal) (fun k hk => absurd hk (by simp)), fun k hk => ?_⟩
        rcases List.mem_cons.1 (List.mem_of_mem_eraseIdx hk) with e | e
        · exact .inr (by have := H10.out.1; omega)
        · exact .inl (hsub k e)
      clear h11 hch11 hal HS10 H10 HF
      go_wp2
      go_quiet (fail)
      go_wp2
      obtain ⟨bs', z1, z2, z3⟩ := HZ.out
      refine bodyPost_ret (v := .tuple #[.bool hit, .bool xd]) (by simp [results, Try.results30, go_sem]) rfl ⟨by rw [← HBK.out], bs', z1.below (below_drewN (Below.refl _ _) _), Chg.trans (ms := []) z2 (Below.chg (below_drewN (Below.refl _ _) _)) (fun k hk => absurd hk (by simp)), z3⟩
    · skip
      have HU2 : Hid (uf = (t, true) :: ws1) := by show _ = _; rw [HUF.out]; simp
      go_wp2_with fail
      refine Calls.mono (row_push hd bs1 v0 (t, true) ws1 V HF.out.row) ?_
      rintro u w10 ⟨rfl, c, hcs, h10, hch10⟩
      rw [← HU2.out] at h10
      have c10 : w10.cell? ⟨w.heap.size, 0, none⟩ = some (.pointer (some ⟨hd, 0, none⟩)) := (HF.out.box.chg hch10 (fun e => HNB.out (by simp only [List.mem_singleton] at e; simp [e]))).cell 0 _ rfl
      have HS10 : Hid _ := row_spill hd M (c :: bs1) v0 uf w10 h10 hM
      have H10 : Hid _ := And.intro hcs hch10
      obtain ⟨X, HX⟩ : ∃ X, Hid ((if M < uf.length then uf.getD M wd else wd) = X) := ⟨_, rfl⟩
      rw [HX.out] at HS10 HBK
      obtain ⟨xz, xd⟩ := X
      clear h10 hch10 c0 k1
      go_wp2_with fail
      refine Calls.mono HS10.out ?_
      rintro u w11 ⟨rfl, h11, hch11⟩
      have hal : Below w11.heap.size w11 (w11.alloc (.cells #[.int .i64 xz, .bool xd] 61)) := (Below.refl _ _).alloc (Nat.le_refl _) _
      have HZ : Hid (∃ bs', LL (w11.alloc (.cells #[.int .i64 xz, .bool xd] 61)) (hd :: bs') (v0 :: uf.eraseIdx M) ∧ Chg (hd :: bs) w (w11.alloc (.cells #[.int .i64 xz, .bool xd] 61)) ∧ ∀ k ∈ bs', k ∈ bs ∨ w.heap.size ≤ k) := by
        have hVs : w.heap.size ≤ V.heap.size := HF.out.chg.size
        have hsub := HSUB.out
        have h1 : Chg (hd :: bs) w w10 := Chg.trans HF.out.chg H10.out.2 (fun k hk => by simp only [List.mem_singleton] at hk; exact .inl (by simp [hk]))
        have h2 : Chg (hd :: bs) w w11 := Chg.trans h1 hch11 (fun k hk => by
          rcases List.mem_cons.1 hk with e | e
          · exact .inl (by simp [e])
          · rcases List.mem_cons.1 e with e | e
            · exact .inr (by have := H10.out.1; omega)
            · exact .inl (List.mem_cons_of_mem _ (hsub k e)))
        refine ⟨(c :: bs1).eraseIdx M, h11.below hal, Chg.trans (ms := []) h2 (Below.chg hal) (fun k hk => absurd hk (by simp)), fun k hk => ?_⟩
        rcases List.mem_cons.1 (List.mem_of_mem_eraseIdx hk) with e | e
        · exact .inr (by have := H10.out.1; omega)
        · exact .inl (hsub k e)
      clear h11 hch11 hal HS10 H10 HF
      go_wp2
      go_quiet (fail)
      go_wp2
      obtain ⟨bs', z1, z2, z3⟩ := HZ.out
      refine bodyPost_ret (v := .tuple #[.bool hit, .bool xd]) (by simp [results, Try.results30, go_sem]) rfl ⟨by rw [← HBK.out], bs', z1.below (below_drewN (Below.refl _ _) _), Chg.trans (ms := []) z2 (Below.chg (below_drewN (Below.refl _ _) _)) (fun k hk => absurd hk (by simp)), z3⟩
end Go.Proofs.Ytmbpmhmehiiiaaa
