
/-
  What a line of a script says, as plain functions; what the specification's l14Named and l21Line return. Conditions: the lists lie in memory; the line is at most 1048576 bytes long.
-/
import Derived.Test.YtmnoghhdkdjnmaaGreatDoorBas
import Derived.Test.YtmnoghhdkdjnmaaGreatDoorPsx
import Derived.Test.YtmnoghhdkdjnmaaGreatDoorScr
import Derived.Test.YtmnoghhdkdjnmaaGreatDoorPnm
namespace Go.Proofs.YtmnoghhdkdjnmaaGreatDoor
open Go.ChangeShapes Go.WideShapes Go.ChangeAt Go.RowKit Go.Deep Go.Joins
set_option linter.unusedVariables false

namespace Sp
theorem glue_short (p : List UInt8) (R : List (List UInt8)) (n : Nat) (hp : p.length ≤ 1) (h : ∀ x ∈ R, x.length ≤ n) : ∀ x ∈ glue p R, x.length ≤ n + 1 := by
  cases R with
  | nil => intro x hx; simp [glue] at hx; subst hx; omega
  | cons y r =>
    intro x hx
    simp only [glue, List.mem_cons] at hx
    rcases hx with rfl | hx
    · have := h y (by simp)
      simp
      omega
    · have := h x (by simp [hx])
      omega
theorem cut_short (c : UInt8) : ∀ l, ∀ x ∈ cut c l, x.length ≤ l.length
  | [] => by simp [cut]
  | b :: l => by
    have ih := cut_short c l
    unfold cut
    split
    · intro x hx
      simp only [List.mem_cons] at hx
      rcases hx with rfl | hx
      · simp
      · have := ih x hx
        simp
        omega
    · exact glue_short [b] _ l.length (by simp) ih
end Sp
namespace Sr
def numV (s : ByteArray) (most : Int) : Option Int := Dc.ans (Tx.nums s) most
theorem num_bd {s : ByteArray} {most n : Int} (h0 : 0 ≤ most) (h : numV s most = some n) : n ≤ most ∧ -most ≤ n := by
  unfold numV Dc.ans at h
  split at h
  · unfold Dc.num at h
    split at h
    · cases hd : Dc.dec most (Tx.nums s).tail true 0 with
      | none => rw [hd] at h; cases h
      | some z =>
        rw [hd] at h
        have hb := Dc.dec_bd most h0 _ z hd
        simp only [Option.bind_some] at h
        split at h
        · cases h
        · cases h
          omega
    · have hb := Dc.dec_bd most h0 _ n h
      omega
  · cases h
def runP (x : ByteArray) : cmT × Int := match numV x 50000 with
  | some n => if n < 0 then (cm0, 2) else ((0, n, 0), 0)
  | none => (cm0, 2)
def inpP (x y : ByteArray) : cmT × Int := match numV x 7, numV y 4294967295 with
  | some d, some v => if d < 0 ∨ v < 0 then (cm0, 2) else ((1, d, IntKind.u32.wrap v), 0)
  | _, _ => (cm0, 2)
theorem fi_ex (P : Nat → Bool) : ∀ n, ∃ r, FI n P r
  | 0 => ⟨-1, .inl ⟨rfl, fun i hi => absurd hi (by omega)⟩⟩
  | n + 1 => by
    obtain ⟨r, h⟩ := fi_ex P n
    rcases h with ⟨rfl, h⟩ | ⟨k, rfl, hk, h1, h2⟩
    · cases hp : P n
      · exact ⟨-1, .inl ⟨rfl, fun i hi => by by_cases e : i = n; rw [e, hp]; exact h i (by omega)⟩⟩
      · exact ⟨n, .inr ⟨n, rfl, by omega, hp, h⟩⟩
    · exact ⟨k, .inr ⟨k, rfl, by omega, h1, h2⟩⟩
noncomputable def nmV (t : Tb) (nm : ByteArray) : Int := Classical.choose (fi_ex (fun i => strEq (t.ps.getD i pt0).nm nm) t.ps.length)
theorem nm_fi (t : Tb) (nm : ByteArray) : FI t.ps.length (fun i => strEq (t.ps.getD i pt0).nm nm) (nmV t nm) := Classical.choose_spec (fi_ex (fun i => strEq (t.ps.getD i pt0).nm nm) t.ps.length)
noncomputable def resP (t : Tb) (x : ByteArray) : cmT × Int := if nmV t x < 0 then (cm0, 3) else ((2, nmV t x, 0), 0)
/-- The command and the code of a line's words. -/
noncomputable def wordsP (t : Tb) (ws : List ByteArray) : cmT × Int :=
  if ws.getD 0 ⟨#[]⟩ = krun ∧ ws.length = 2 then runP (ws.getD 1 ⟨#[]⟩)
  else if ws.getD 0 ⟨#[]⟩ = kinp ∧ ws.length = 3 then inpP (ws.getD 1 ⟨#[]⟩) (ws.getD 2 ⟨#[]⟩)
  else if ws.getD 0 ⟨#[]⟩ = kres ∧ ws.length = 2 then resP t (ws.getD 1 ⟨#[]⟩)
  else (cm0, 2)
theorem texts_pos (c : UInt8) (s : ByteArray) : 0 < (Sp.texts c s).length := by
  unfold Sp.texts
  rw [List.length_map]
  exact List.length_pos_iff.2 (Sp.cut_ne c _)
theorem texts_short (c : UInt8) (s : ByteArray) : ∀ x ∈ Sp.texts c s, x.size ≤ s.size := by
  intro x hx
  unfold Sp.texts at hx
  rw [List.mem_map] at hx
  obtain ⟨l, hl, rfl⟩ := hx
  have := Sp.cut_short c _ l hl
  show l.toArray.size ≤ _
  rw [List.size_toArray]
  exact this
end Sr
theorem tell_cases (q : Option Int) : (q = none ∧ tell q = .returned (.tuple #[.int .i64 0, .bool false])) ∨ ∃ n, q = some n ∧ tell q = .returned (.tuple #[.int .i64 n, .bool true]) := by
  cases q with
  | none => exact .inl ⟨rfl, rfl⟩
  | some n => exact .inr ⟨n, rfl, rfl⟩
theorem flds_at {w : World} {a : Option Addr} {ws : List ByteArray} (h : Flds w a ws) (i : Nat) (hi : i < ws.length) : ∃ b off, a = some ⟨b, off, none⟩ ∧ b < w.heap.size ∧ ∀ j, j < ws.length → w.cell? ⟨b, off + j, none⟩ = some (.string (ws.getD j ⟨#[]⟩)) := by
  obtain ⟨b, off, e, hlt, hc⟩ := h (by omega)
  exact ⟨b, off, e, hlt, fun j hj => hc j _ (by rw [List.getD_eq_getElem?_getD, List.getElem?_eq_getElem hj]; rfl)⟩
set_option maxRecDepth 40000 in
set_option maxHeartbeats 8000000 in
theorem spec_nm0 (t : Tb) (pa da ca sa : Option Addr) (n pc dn dc cn cc sn sc : Nat) (Y : Nat → Rw) (nm : ByteArray) (w : World) (hp : PSegL 0 w pa n t.ps Y) (hl : t.ps.length = n) (hn : n ≤ 1048576) :
    Calls Tryz.prog 74 #[.agg #[.int .i64 t.mem, .int .i64 t.s1, .int .i64 t.s2, .int .i64 t.s3, .int .i64 t.tlb, .int .i64 t.c1, .int .i64 t.c2, .int .i64 t.c3, .int .i64 t.c4, .int .i64 t.c5, .int .i64 t.c6, .int .i64 t.c7, .int .i64 t.pad, .int .i64 t.grd, .int .i64 t.maj, .slice pa n pc, .slice da dn dc, .slice ca cn cc, .slice sa sn sc], .string nm] w fun e w' => (∃ r : Int, e = .returned (.int .i64 r) ∧ FI t.ps.length (fun i => strEq (t.ps.getD i pt0).nm nm) r) ∧ Below w.heap.size w w' := by
  obtain ⟨w1, HW1⟩ : ∃ w1, Hid (w1 = w.alloc (.cells #[.int .i64 t.mem, .int .i64 t.s1, .int .i64 t.s2, .int .i64 t.s3, .int .i64 t.tlb, .int .i64 t.c1, .int .i64 t.c2, .int .i64 t.c3, .int .i64 t.c4, .int .i64 t.c5, .int .i64 t.c6, .int .i64 t.c7, .int .i64 t.pad, .int .i64 t.grd, .int .i64 t.maj, .slice pa n pc, .slice da dn dc, .slice ca cn cc, .slice sa sn sc] 43)) := ⟨_, rfl⟩
  have HB1 : Hid (Below w.heap.size w w1) := by rw [HW1.out]; exact (Below.refl _ _).alloc (Nat.le_refl _) _
  have HX1 : Hid (TBx w1 w.heap.size t ⟨pa, n, pc, da, dn, dc, ca, cn, cc, sa, sn, sc, Y⟩) := by rw [HW1.out]; exact TBx.new w t ⟨pa, n, pc, da, dn, dc, ca, cn, cc, sa, sn, sc, Y⟩ _ rfl
  have HP : Hid (PSegL 0 w pa n t.ps Y) := hp
  have HL : Hid (t.ps.length = n) := hl
  clear hp hl
  go_enter Tryz.func74, Tryz.ntmps74
  go_wp2
  rw [← HW1.out]
  go_loopw [5] (fun i wr => ∃ m : Nat, m ≤ n ∧ i = .int .i64 m ∧ Hid (Below w1.heap.size w1 wr ∧ ∀ j, j < m → strEq (t.ps.getD j pt0).nm nm = false)) (fun i _ => n - (intOf i).toNat)
  case atStart => exact ⟨0, by omega, rfl, Below.refl _ _, fun i hi => absurd hi (by omega)⟩
  case round =>
    obtain ⟨m, hm, rfl, HR⟩ := hrel
    have k15 : wr.cell? ⟨w.heap.size, 15, none⟩ = some (.slice pa n pc) := (HX1.out.below HR.out.1).cell 15 rfl
    have HBR : Hid (Below w.heap.size w wr) := HB1.out.trans (HR.out.1.mono HB1.out.size)
    by_cases hmn : m < n
    rotate_left
    · obtain rfl : m = n := by omega
      have HF : Hid (FI t.ps.length (fun i => strEq (t.ps.getD i pt0).nm nm) (-1)) := .inl ⟨rfl, fun i hi => HR.out.2 i (by rw [← HL.out]; exact hi)⟩
      go_wp2
      go_ret
      exact ⟨⟨_, rfl, HF.out⟩, HBR.out⟩
    have hmn' : (m : Int) < (n : Int) := by omega
    obtain ⟨b1, o1, rfl, hbl1, p1⟩ := HP.out.1.seg.at m hmn
    replace p1 := p1.of (w' := wr) (fun j => HBR.out.cell (p := ⟨b1, j, none⟩) hbl1)
    have c0 : wr.cell? ⟨b1, o1 + m * 5, none⟩ = some (.string (Y m).nm) := (rw_cells p1).1
    have HE : Hid (strEq (Y m).nm nm = strEq (t.ps.getD m pt0).nm nm) := by show _ = _; rw [(HP.out.2 m hmn).nm]
    have HF : Hid (strEq (Y m).nm nm = true → FI t.ps.length (fun i => strEq (t.ps.getD i pt0).nm nm) (m : Int)) := fun h => .inr ⟨m, rfl, by rw [HL.out]; exact hmn, HE.out.symm.trans h, HR.out.2⟩
    have HG : Hid (strEq (Y m).nm nm = false → ∀ j, j < m + 1 → strEq (t.ps.getD j pt0).nm nm = false) := fun h j hj => by
      by_cases e : j = m
      · subst e; rw [← HE.out]; exact h
      · exact HR.out.2 j (by omega)
    have HRB : Hid (Below w1.heap.size w1 wr) := HR.out.1
    generalize (Y m).nm = sm at c0 HF HG
    obtain ⟨se, HSE⟩ : ∃ b, Hid (strEq sm nm = b) := ⟨_, rfl⟩
    rw [HSE.out] at HF HG
    have hse : (sm.toList == nm.toList) = se := HSE.out
    clear HR p1 hbl1 HE
    cases se
    · have HG2 : Hid _ := HG.out (by trivial)
      clear HF HG
      go_wp2
      go_roundw
      case rel => exact ⟨m + 1, by omega, by go_num, HRB.out, HG2.out⟩
      case measure => simp [intOf]; omega
    · have HF2 : Hid _ := HF.out (by trivial)
      clear HF HG
      go_wp2
      go_ret
      exact ⟨⟨_, rfl, HF2.out⟩, HBR.out⟩
theorem spec_nm (t : Tb) (a : Ad) (nm : ByteArray) (w : World) (hp : PSegL 0 w a.pa a.pn t.ps a.Y) (hl : t.ps.length = a.pn) (hn : a.pn ≤ 1048576) :
    Calls Tryz.prog 74 #[tbV t a, .string nm] w fun e w' => e = .returned (.int .i64 (Sr.nmV t nm)) ∧ Below w.heap.size w w' :=
  (spec_nm0 t a.pa a.da a.ca a.sa a.pn a.pc a.dn a.dc a.cn a.cc a.sn a.sc a.Y nm w hp hl hn).mono fun e w' ⟨⟨r, h1, h2⟩, h3⟩ => ⟨by rw [h1, h2.unique (Sr.nm_fi t nm)], h3⟩
theorem impl_nm (t : Tb) (a : Ad) (nm : ByteArray) (w : World) (hm : TM 0 w t a) (hw : TW t a) :
    Calls Tryz.prog 103 #[tbV t a, .string nm] w fun e w' => e = .returned (.int .i64 (Sr.nmV t nm)) ∧ Below w.heap.size w w' :=
  (tab_named t a nm w hm hw).mono fun e w' ⟨⟨r, h1, h2⟩, h3⟩ => ⟨by rw [h1, (show FI t.ps.length (fun i => strEq (t.ps.getD i pt0).nm nm) r from h2).unique (Sr.nm_fi t nm)], h3⟩
end Go.Proofs.YtmnoghhdkdjnmaaGreatDoor
