
/-
  A script's commands, or the code and the line at which it ends, as plain functions; what the specification's ParseScript returns. Conditions: the lists lie in memory; the text is at most 1048576 bytes long.
-/
import Derived.Test.YtmnoghhdkdjnmaaGreatDoorBas
import Derived.Test.YtmnoghhdkdjnmaaGreatDoorPsb
import Derived.Test.YtmnoghhdkdjnmaaGreatDoorCmo
import Derived.Test.YtmnoghhdkdjnmaaGreatDoorSp6
namespace Go.Proofs.YtmnoghhdkdjnmaaGreatDoor
open Go.ChangeShapes Go.WideShapes Go.ChangeAt Go.RowKit Go.Deep Go.Joins
set_option linter.unusedVariables false

namespace Ln
theorem pieces_shortQ (s : ByteArray) : ∀ x ∈ pieces s, x.size ≤ s.size := by
  intro x hx
  unfold pieces at hx
  rw [List.mem_map] at hx
  obtain ⟨l, hl, rfl⟩ := hx
  have := Sp.cut_short 10 _ l ((List.dropLast_sublist _).subset hl)
  show l.toArray.size ≤ _
  rw [List.size_toArray]
  exact this
end Ln
namespace Sr
/-- What the first lines of a script come to: its commands, or the code and the line at which it ends. -/
noncomputable def stL (t : Tb) (ls : List ByteArray) : Nat → List cmT ⊕ (Int × Int)
  | 0 => .inl []
  | j + 1 => match stL t ls j with
    | .inr e => .inr e
    | .inl xs => if (wordsP t (Sp.texts 32 (ls.getD j ⟨#[]⟩))).2 = 0 then (if 300 ≤ j then .inr (4, (j : Int) + 1) else .inl (xs ++ [(wordsP t (Sp.texts 32 (ls.getD j ⟨#[]⟩))).1])) else .inr ((wordsP t (Sp.texts 32 (ls.getD j ⟨#[]⟩))).2, (j : Int) + 1)
theorem stL_len {t : Tb} {ls : List ByteArray} : ∀ {j : Nat} {xs : List cmT}, stL t ls j = .inl xs → xs.length = j ∧ j ≤ 300
  | 0, xs, h => by
    rw [stL] at h
    injection h with h
    subst h
    exact ⟨rfl, by omega⟩
  | j + 1, xs, h => by
    rw [stL] at h
    cases hj : stL t ls j with
    | inr e => rw [hj] at h; cases h
    | inl ys =>
      rw [hj] at h
      have ih := stL_len hj
      simp only at h
      split at h
      · split at h
        · cases h
        · injection h with h
          subst h
          rw [List.length_append]
          exact ⟨by simp [ih.1], by omega⟩
      · cases h
theorem stL_ok {t : Tb} {ls : List ByteArray} {j : Nat} {xs : List cmT} {c : cmT} (h : stL t ls j = .inl xs) (hp : wordsP t (Sp.texts 32 (ls.getD j ⟨#[]⟩)) = (c, 0)) (hj : j < 300) : stL t ls (j + 1) = .inl (xs ++ [c]) := by
  rw [stL, h]
  simp only [hp]
  rw [if_pos trivial, if_neg (by omega)]
theorem stL_more {t : Tb} {ls : List ByteArray} {j : Nat} {e : Int × Int} (h : stL t ls (j + 1) = .inr e) : ∀ n, j < n → stL t ls n = .inr e
  | 0, hn => absurd hn (by omega)
  | n + 1, hn => by
    by_cases g : j = n
    · subst g; exact h
    · rw [stL, stL_more h n (by omega)]
theorem stL_many {t : Tb} {ls : List ByteArray} {j n : Nat} {xs : List cmT} {c : cmT} (h : stL t ls j = .inl xs) (hp : wordsP t (Sp.texts 32 (ls.getD j ⟨#[]⟩)) = (c, 0)) (hj : 300 ≤ j) (hn : j < n) : stL t ls n = .inr (4, (j : Int) + 1) :=
  stL_more (by rw [stL, h]; simp only [hp]; rw [if_pos trivial, if_pos hj]) n hn
theorem stL_bad {t : Tb} {ls : List ByteArray} {j n : Nat} {xs : List cmT} {c : cmT} {cd : Int} (h : stL t ls j = .inl xs) (hp : wordsP t (Sp.texts 32 (ls.getD j ⟨#[]⟩)) = (c, cd)) (hc : ¬ cd = 0) (hn : j < n) : stL t ls n = .inr (cd, (j : Int) + 1) :=
  stL_more (by rw [stL, h]; simp only [hp]; rw [if_neg hc]) n hn
/-- What ParseScript tells. -/
def PQ (t : Tb) (s : ByteArray) (ys : List cmT) (cd ln : Int) : Prop :=
  (¬ Sd t ∧ ys = [] ∧ cd = 5 ∧ ln = 0) ∨ (Sd t ∧ Ln.ok s = false ∧ ys = [] ∧ cd = 1 ∧ ln = 0) ∨ (Sd t ∧ Ln.ok s = true ∧ ((stL t (Ln.pieces s) (Ln.pieces s).length = .inl ys ∧ cd = 0 ∧ ln = 0) ∨ (stL t (Ln.pieces s) (Ln.pieces s).length = .inr (cd, ln) ∧ ys = [])))
theorem PQ.ex (t : Tb) (s : ByteArray) : ∃ ys cd ln, PQ t s ys cd ln ∧ ys.length ≤ 300 := by
  by_cases h : Sd t
  · cases hk : Ln.ok s with
    | false => exact ⟨_, _, _, .inr (.inl ⟨h, hk, rfl, rfl, rfl⟩), by simp⟩
    | true =>
      cases hs : stL t (Ln.pieces s) (Ln.pieces s).length with
      | inl ys => exact ⟨_, _, _, .inr (.inr ⟨h, hk, .inl ⟨hs, rfl, rfl⟩⟩), by have := stL_len hs; omega⟩
      | inr e => exact ⟨_, e.1, e.2, .inr (.inr ⟨h, hk, .inr ⟨hs, rfl⟩⟩), by simp⟩
  · exact ⟨_, _, _, .inl ⟨h, rfl, rfl, rfl⟩, by simp⟩
end Sr
def LPostQ (X : World) (ys : List cmT) (cd ln : Int) (e : Ending) (w' : World) : Prop :=
  ∃ a cap, e = .returned (.tuple #[.slice a ys.length cap, .int .i64 cd, .int .i64 ln]) ∧ Below X.heap.size X w' ∧ OC w' X.heap.size w'.heap.size a ys.length (cmX ys)
theorem OwnC.gl {w : World} {base g cap m : Nat} {xs : List cmT} (h : OwnC w base (.slice (some ⟨g, 0, none⟩) m cap) xs) : g < w.heap.size ∧ base ≤ g := by
  rcases h.2 with ⟨h0, h1⟩ | ⟨g', cap', cur, e, hb, hg, _⟩
  · cases h0
  · injection e with e1 e2 e3
    injection e1 with e1
    injection e1 with e1
    subst e1
    refine ⟨?_, hb⟩
    rcases Nat.lt_or_ge g w.heap.size with hlt | hge
    · exact hlt
    · rw [Array.getElem?_eq_none hge] at hg; cases hg
theorem cm_new (w : World) (y1 y2 y3 : Int) (B : Nat) (hB : B = w.heap.size) : ∀ j u, (cmL (y1, y2, y3))[j]? = some u → (w.alloc (.cells #[.int .i64 y1, .int .i64 y2, .int .u32 y3] 62)).cell? ((⟨B, 0, none⟩ : Addr).add j) = some u := fun j u h => by
  subst hB
  rw [add_plain]
  exact CellsAt.new w (cmL (y1, y2, y3)) 62 w.heap.size rfl j u h
theorem cm_one (y : cmT) : ∀ u ∈ cmL y, u.oneCell' = true := by
  intro u hu
  simp only [cmL, List.mem_cons, List.not_mem_nil, or_false] at hu
  obtain rfl | rfl | rfl := hu <;> rfl
theorem cm_oneB (y1 y2 y3 : Int) : ∀ u ∈ [Value.int .i64 y1, .int .i64 y2, .int .u32 y3], u.oneCell' = true := cm_one (y1, y2, y3)
theorem cm_empty (w : World) (a : Option Addr) (lo hi : Nat) : OC w lo hi a ([] : List cmT).length (cmX []) := ⟨fun h => absurd h (by simp), fun h => absurd h (by simp)⟩
structure Rp10 (W0 : World) (Z C : Array Value) (v0 : Value) (v1 : Value) (v2 : Value) (v3 : Value) (v4 : Value) (v5 : Value) (v6 : Value) (v7 : Value) (w' : World) (b0 b1 b2 b3 b4 b5 b6 b7 b8 b9 b10 b11 : Bool) (x33 x34 x35 x36 x37 x38 x32 x39 x40 x11 x12 : Value) : Prop where
  cs : b10 = true → b0 = true ∧ b1 = true ∧ b2 = true ∧ b3 = true ∧ b4 = true ∧ b5 = true ∧ b6 = true ∧ b7 = true ∧ b9 = true ∧ True
  gb : Below W0.heap.size W0 w'
  f0 : b0 = true → x33 = v0
  f1 : b1 = true → x34 = v1
  f2 : b2 = true → x35 = v2
  f3 : b3 = true → x36 = v3
  f4 : b4 = true → x37 = v4
  f5 : b5 = true → x38 = v5
  f6 : b6 = true → x32 = v5
  f7 : b7 = true → x39 = v6
  f8 : b8 = true → x40 = v7
  f9 : b9 = true → ∃ N, x11 = .pointer (some ⟨N, 0, none⟩) ∧ W0.heap.size ≤ N ∧ (b10 = false → w'.heap[N]? = some (.cells Z 62 (0, 0))) ∧ (b10 = true → w'.heap[N]? = some (.cells C 62 (0, 0)))
  f11 : b11 = true → x12 = v7
theorem Rp10.below {W0 : World} {Z C : Array Value} {v0 : Value} {v1 : Value} {v2 : Value} {v3 : Value} {v4 : Value} {v5 : Value} {v6 : Value} {v7 : Value} {w' w9 : World} {b0 b1 b2 b3 b4 b5 b6 b7 b8 b9 b10 b11 : Bool} {x33 x34 x35 x36 x37 x38 x32 x39 x40 x11 x12 : Value} (h : Rp10 W0 Z C v0 v1 v2 v3 v4 v5 v6 v7 w' b0 b1 b2 b3 b4 b5 b6 b7 b8 b9 b10 b11 x33 x34 x35 x36 x37 x38 x32 x39 x40 x11 x12) (hb : Below w'.heap.size w' w9) : Rp10 W0 Z C v0 v1 v2 v3 v4 v5 v6 v7 w9 b0 b1 b2 b3 b4 b5 b6 b7 b8 b9 b10 b11 x33 x34 x35 x36 x37 x38 x32 x39 x40 x11 x12 :=
  ⟨h.cs, h.gb.trans (hb.mono h.gb.size), h.f0, h.f1, h.f2, h.f3, h.f4, h.f5, h.f6, h.f7, h.f8, fun g => (h.f9 g).imp fun N k => ⟨k.1, k.2.1, fun s => row_below (k.2.2.1 s) hb, fun s => row_below (k.2.2.2 s) hb⟩, h.f11⟩
set_option maxRecDepth 40000 in
set_option maxHeartbeats 8000000 in
theorem spec_pq (t : Tb) (a : Ad) (s : ByteArray) (ys : List cmT) (cd ln : Int) (w : World) (hm : TM 0 w t a) (hw : TW t a) (hs : TS a) (hsz : s.size ≤ 1048576) (hP : Sr.PQ t s ys cd ln) :
    Calls Tryz.prog 13 #[tbV t a, .string s] w (LPostQ w ys cd ln) := by
  obtain ⟨qs, hqs⟩ := told (Sd t)
  have HB0 : Hid (Below w.heap.size w (w.alloc (.cells (tbA t a) 43))) := (Below.refl _ _).alloc (Nat.le_refl _) _
  have HX0 : Hid (TBx (w.alloc (.cells (tbA t a) 43)) w.heap.size t a) := TBx.new w t a _ rfl
  have HSP : Hid (Calls Tryz.prog 22 #[tbV t a] (w.alloc (.cells (tbA t a) 43)) fun e w' => e = .returned (.bool qs) ∧ Below (w.alloc (.cells (tbA t a) 43)).heap.size (w.alloc (.cells (tbA t a) 43)) w') := spec_sound t a qs _ (hm.below HB0.out) hw hs hqs
  have HLS : Hid (∀ X x, Below w.heap.size w X → x.size ≤ 1048576 → LS X t a x) := fun X x hX hx => ⟨(hm.below hX).p, hw.pl, hs.p, hx⟩
  have HQ : Hid (qs = true ↔ Sd t) := hqs
  have HPQ : Hid (Sr.PQ t s ys cd ln) := hP
  have HSZ : Hid (s.size ≤ 1048576) := hsz
  clear hm hw hs hqs hP hsz
  go_enter Tryz.func13, Tryz.ntmps13
  go_wp2_with (first | (refine wpList_load_row rfl 43 (.tmp 2) rfl w.heap.size rfl 43 (tbA t a) (0, 0) _ HX0.out Tryz.underlying43 rfl (by kernel_rfl) ?_) | fail)
  refine Calls.mono HSP.out ?_
  rintro e w1 ⟨rfl, hb1⟩
  have HBX : Hid (Below w.heap.size w w1) := HB0.out.trans (hb1.mono HB0.out.size)
  have HX1 : Hid (TBx w1 w.heap.size t a) := HX0.out.below hb1
  clear hb1 HB0 HX0 HSP
  cases qs
  · have HT : Hid (ys = [] ∧ cd = 5 ∧ ln = 0) := by
      rcases HPQ.out with ⟨_, h⟩ | ⟨h, _⟩ | ⟨h, _⟩
      · exact h
      · have := HQ.out.2 h; cases this
      · have := HQ.out.2 h; cases this
    go_wp2
    go_ret3
    exact ⟨_, _, by rw [HT.out.1, HT.out.2.1, HT.out.2.2]; rfl, HBX.out.alloc HBX.out.size _, by rw [HT.out.1]; exact cm_empty _ _ _ _⟩
  have HT0 : Hid (Sd t) := HQ.out.1 rfl
  clear HQ
  go_wp2_with fail
  refine Calls.mono (spec_lines s _ HSZ.out) ?_
  rintro e w3 ⟨A, lc, rfl, hfl, hb3⟩
  have HB3 : Hid (Below w.heap.size w w3) := HBX.out.trans (hb3.mono HBX.out.size)
  have HX3 : Hid (TBx w3 w.heap.size t a) := HX1.out.below hb3
  clear HBX HX1 hb3
  obtain ⟨qk, HQK⟩ : ∃ q, Hid (Ln.ok s = q) := ⟨_, rfl⟩
  rw [HQK.out] at hfl ⊢
  cases qk
  · have HBX := HB3
    have HT : Hid (ys = [] ∧ cd = 1 ∧ ln = 0) := by
      rcases HPQ.out with ⟨h, _⟩ | ⟨_, _, h⟩ | ⟨_, h, _⟩
      · exact absurd HT0.out h
      · exact h
      · rw [HQK.out] at h; cases h
    clear hfl
    go_wp2
    go_ret3
    exact ⟨_, _, by rw [HT.out.1, HT.out.2.1, HT.out.2.2]; rfl, HBX.out.alloc HBX.out.size _, by rw [HT.out.1]; exact cm_empty _ _ _ _⟩
  have HPC : Hid ((Sr.stL t (Ln.pieces s) (Ln.pieces s).length = .inl ys ∧ cd = 0 ∧ ln = 0) ∨ (Sr.stL t (Ln.pieces s) (Ln.pieces s).length = .inr (cd, ln) ∧ ys = [])) := by
    rcases HPQ.out with ⟨h, _⟩ | ⟨_, h, _⟩ | ⟨_, _, h⟩
    · exact absurd HT0.out h
    · rw [HQK.out] at h; cases h
    · exact h
  have hnl : (Ln.pieces s).length ≤ 1048576 := by have := Ln.pieces_many s; have := HSZ.out; omega
  have HSH : Hid (∀ x ∈ Ln.pieces s, x.size ≤ 1048576) := fun x hx => Nat.le_trans (Ln.pieces_shortQ s x hx) HSZ.out
  have HFL0 := (hfl rfl).1
  clear hfl HPQ HQK HT0
  simp only [if_true]
  obtain ⟨ls, HLSD⟩ : ∃ ls, Hid (Ln.pieces s = ls) := ⟨_, rfl⟩
  rw [HLSD.out] at HPC HFL0 hnl HSH
  rw [show (Ln.pieces s).length = ls.length by rw [HLSD.out]]
  obtain ⟨n, HN⟩ : ∃ n, Hid (ls.length = n) := ⟨_, rfl⟩
  rw [HN.out] at hnl HPC ⊢
  have HFX : Hid (∀ j, j < n → ∃ bl ol, A = some ⟨bl, ol, none⟩ ∧ bl < w3.heap.size ∧ w3.cell? ⟨bl, ol + j, none⟩ = some (.string (ls.getD j ⟨#[]⟩))) := fun j hj => by
    obtain ⟨bl, ol, h1, h2, h3⟩ := flds_at HFL0 j (by rw [HN.out]; exact hj)
    exact ⟨bl, ol, h1, h2, h3 j (by rw [HN.out]; exact hj)⟩
  clear HFL0
  have HBA : Hid (Below w3.heap.size w3 (w3.alloc (.cells #[] 62))) := (Below.refl _ _).alloc (Nat.le_refl _) _
  have HOA : Hid (OwnC (w3.alloc (.cells #[] 62)) w3.heap.size (.slice (some ⟨w3.heap.size, 0, none⟩) 0 0) []) := OwnC.new w3 _ rfl
  obtain ⟨ii, hii, hz1', hs0, hb0⟩ := cm_info'
  have HII : Hid (Tryz.prog.info? 62 = some ii ∧ ii.zero = some (.agg #[.int .i64 0, .int .i64 0, .int .u32 0]) ∧ ii.size = 3 ∧ ii.bytes = 24) := ⟨hii, hz1', hs0, hb0⟩
  clear hii hz1' hs0 hb0
  go_wp2
  go_loopw [9, 10] (fun v i wr => ∃ (j g cap : Nat) (F : List cmT), j ≤ n ∧ i = .int .i64 j ∧ v = .slice (some ⟨g, 0, none⟩) j cap ∧ F.length = j ∧ Hid (Sr.stL t ls j = .inl F) ∧ Hid (Below w3.heap.size w3 wr) ∧ Hid (OwnC wr w3.heap.size (.slice (some ⟨g, 0, none⟩) j cap) F)) (fun _ i _ => n - (intOf i).toNat)
  case atStart => exact ⟨0, w3.heap.size, 0, [], by omega, rfl, rfl, rfl, rfl, HBA.out, HOA.out⟩
  case round =>
    clear HBA HOA
    obtain ⟨j, g, cap, F, hj, rfl, rfl, hFl, HST, HBW, HOW⟩ := hrel
    have HFL : Hid (F.length = j) := hFl
    clear hFl
    have hj3 := (Sr.stL_len HST.out).2
    have HBR : Hid (Below w.heap.size w wr) := HB3.out.trans (HBW.out.mono HB3.out.size)
    by_cases hjn : j < n
    rotate_left
    · obtain rfl : j = n := by omega
      have hjn' : ¬ ((j : Int) < (j : Int)) := by omega
      have HT : Hid (ys = F ∧ cd = 0 ∧ ln = 0) := by
        rcases HPC.out with ⟨h, h1, h2⟩ | ⟨h, _⟩
        · rw [HST.out] at h
          injection h with h
          exact ⟨h.symm, h1, h2⟩
        · rw [HST.out] at h; cases h
      go_wp2
      go_ret3
      have hh := HOW.out
      rw [← HFL.out] at hh
      obtain ⟨a', cap', e1, h4⟩ := hh.oc
      cases e1
      exact ⟨_, _, by rw [HT.out.1, HT.out.2.1, HT.out.2.2, HFL.out]; rfl, HBR.out, by rw [HT.out.1]; exact h4.wide HB3.out.size (Nat.le_refl _)⟩
    have hjn' : (j : Int) < (n : Int) := by omega
    obtain ⟨bl, ol, hA, hbl, hcx⟩ := HFX.out j hjn
    obtain ⟨x, HXX⟩ : ∃ x, Hid (ls.getD j ⟨#[]⟩ = x) := ⟨_, rfl⟩
    rw [HXX.out] at hcx
    obtain ⟨p1, p2, p3, p4, hpp⟩ : ∃ p1 p2 p3 p4, Sr.wordsP t (Sp.texts 32 x) = ((p1, p2, p3), p4) := ⟨_, _, _, _, rfl⟩
    have HPP : Hid (Sr.wordsP t (Sp.texts 32 (ls.getD j ⟨#[]⟩)) = ((p1, p2, p3), p4)) := by show _ = _; rw [HXX.out]; exact hpp
    have HNO1 : Hid (¬ p4 = 0 → ys = [] ∧ cd = p4 ∧ ln = (j : Int) + 1) := fun h => by
      have hst := Sr.stL_bad HST.out HPP.out h hjn
      rcases HPC.out with ⟨g1, _⟩ | ⟨g1, g2⟩
      · rw [hst] at g1; cases g1
      · rw [hst] at g1
        injection g1 with g1
        injection g1 with g1 g3
        exact ⟨g2, g1.symm, g3.symm⟩
    have HNO2 : Hid (p4 = 0 → 300 ≤ j → ys = [] ∧ cd = 4 ∧ ln = (j : Int) + 1) := fun h h3 => by
      have hpp2 := HPP.out
      rw [h] at hpp2
      have hst := Sr.stL_many HST.out hpp2 h3 hjn
      rcases HPC.out with ⟨g1, _⟩ | ⟨g1, g2⟩
      · rw [hst] at g1; cases g1
      · rw [hst] at g1
        injection g1 with g1
        injection g1 with g1 g3
        exact ⟨g2, g1.symm, g3.symm⟩
    have hxs : x.size ≤ 1048576 := by rw [← HXX.out]; exact HSH.out _ (getD_in ls _ j (by rw [HN.out]; exact hjn))
    have HRD : Hid (∀ X, Below wr.heap.size wr X → Calls Tryz.prog 44 #[tbV t a, .string x] X fun e w' => e = .returned (.tuple #[.agg #[.int .i64 p1, .int .i64 p2, .int .u32 p3], .int .i64 p4]) ∧ Below X.heap.size X w') := fun X hX => by
      have h := spec_line t a x X (HLS.out X x (HBR.out.trans (hX.mono HBR.out.size)) hxs)
      rw [hpp] at h
      exact h
    have HXG : Hid (∀ X, Below wr.heap.size wr X → X.heap[w.heap.size]? = some (.cells (tbA t a) 43 (0, 0))) := fun X hX => (HX3.out.below HBW.out).below hX
    have HCG : Hid (∀ X, Below wr.heap.size wr X → X.cell? ⟨bl, ol + j, none⟩ = some (.string x)) := fun X hX => cell_kept hX ((HBW.out.cell (p := ⟨bl, ol + j, none⟩) hbl).trans hcx)
    subst hA
    clear hcx hbl hxs hpp HXX HBR
    go_wp2
    refine wp_region_inv (by kernel_rfl) (by kernel_rfl) (fun A ℓ a' w' => ∃ (x33 x34 x35 x36 x37 x38 x32 x39 x40 x11 x12 : Value), a' = (((((((((((A.put (some 33) x33).put (some 34) x34).put (some 35) x35).put (some 36) x36).put (some 37) x37).put (some 38) x38).put (some 32) x32).put (some 39) x39).put (some 40) x40).put (some 11) x11).put (some 12) x12) ∧ Rp10 (wr) (#[.int .i64 0, .int .i64 0, .int .u32 0]) (#[.int .i64 p1, .int .i64 p2, .int .u32 p3]) (tbV t a) (.slice (some ⟨bl, ol, none⟩) n lc) (.int .i64 (j : Int)) (.pointer (some ⟨bl, ol + j, none⟩)) (.string x) (.tuple #[.agg #[.int .i64 p1, .int .i64 p2, .int .u32 p3], .int .i64 p4]) (.agg #[.int .i64 p1, .int .i64 p2, .int .u32 p3]) (.int .i64 p4) w' (ℓ 0) (ℓ 1) (ℓ 2) (ℓ 3) (ℓ 4) (ℓ 5) (ℓ 6) (ℓ 7) (ℓ 8) (ℓ 9) (ℓ 10) (ℓ 11) x33 x34 x35 x36 x37 x38 x32 x39 x40 x11 x12) ?_ ?_ ?_ ?_
    · exact ⟨u33, u34, u35, u36, u37, u38, u32, u39, u40, u11, u12, (by simp only [Act.put, List.setIfInBounds_toArray, List.set_cons_zero, List.set_cons_succ]), ⟨(fun g => by cases g), (Below.refl _ _).drew, (fun g => by cases g), (fun g => by cases g), (fun g => by cases g), (fun g => by cases g), (fun g => by cases g), (fun g => by cases g), (fun g => by cases g), (fun g => by cases g), (fun g => by cases g), (fun g => by cases g), (fun g => by cases g)⟩⟩
    · intro ℓ a' w' hI hall
      obtain ⟨x33, x34, x35, x36, x37, x38, x32, x39, x40, x11, x12, rfl, hr⟩ := hI
      have hall' : ∀ i, i < 12 → ℓ i = true := hall
      obtain rfl := hr.f0 (hall' 0 (by decide))
      obtain rfl := hr.f1 (hall' 1 (by decide))
      obtain rfl := hr.f2 (hall' 2 (by decide))
      obtain rfl := hr.f3 (hall' 3 (by decide))
      obtain rfl := hr.f4 (hall' 4 (by decide))
      obtain rfl := hr.f5 (hall' 5 (by decide))
      obtain rfl := hr.f6 (hall' 6 (by decide))
      obtain rfl := hr.f7 (hall' 7 (by decide))
      obtain rfl := hr.f8 (hall' 8 (by decide))
      obtain ⟨N, rfl, hN, _, hrow⟩ := hr.f9 (hall' 9 (by decide))
      have hrow := hrow (hall' 10 (by decide))
      obtain rfl := hr.f11 (hall' 11 (by decide))
      have hgb := hr.gb
      clear hall hall' hr
      simp only [Act.put, List.setIfInBounds_toArray, List.set_cons_zero, List.set_cons_succ]
      have HBV : Hid (Below w3.heap.size w3 w') := HBW.out.trans (hgb.mono HBW.out.size)
      have HBX : Hid (Below w.heap.size w w') := HB3.out.trans (HBV.out.mono HB3.out.size)
      have HOV : Hid (OwnC w' w3.heap.size (.slice (some ⟨g, 0, none⟩) j cap) F) := HOW.out.below hgb
      have e0 : w'.cell? ⟨N, 0, none⟩ = some (.int .i64 p1) := row_c hrow 0 _ rfl
      have e1 : w'.cell? ⟨N, 1, none⟩ = some (.int .i64 p2) := row_c hrow 1 _ rfl
      have e2 : w'.cell? ⟨N, 2, none⟩ = some (.int .u32 p3) := row_c hrow 2 _ rfl
      clear hrow hgb hN HBW HOW
      have hwj : IntKind.i64.wrap ((j : Int) + 1) = (j : Int) + 1 := by rw [IntKind.wrap_i64]; omega
      by_cases hp4 : p4 = 0
      · subst hp4
        by_cases h300 : j < 300
        · have hge : ¬ ((300 : Int) ≤ (j : Int)) := by omega
          have HF2 : Hid (Sr.stL t ls (j + 1) = .inl (F ++ [(p1, p2, p3)])) := Sr.stL_ok HST.out HPP.out h300
          have HOW := HOV
          have HBW := HBV
          clear HNO1 HNO2 HPP HST HBX HOV HBV
          have HBSp : Hid (w3.heap.size ≤ w'.heap.size) := HBW.out.size
          have halp : Below w'.heap.size w' (w'.alloc (.cells #[.int .i64 p1, .int .i64 p2, .int .u32 p3] 62)) := (Below.refl _ _).alloc (Nat.le_refl _) _
          have hownp : (w'.alloc (.cells #[.int .i64 p1, .int .i64 p2, .int .u32 p3] 62)).ownsRow (w3.heap.size) 62 3 (.slice (some ⟨g, 0, none⟩) j cap) j (ccells F) := by
            have := HOW.out.below halp
            unfold OwnC at this
            rw [HFL.out] at this
            exact this
          have hlowp := HOW.out.block
          have HZp : Hid (∀ (gg cap1 : Nat) (w9 : World), w9.ownsRow (w3.heap.size) 62 3 (.slice (some ⟨gg, 0, none⟩) (j + 1) cap1) (j + 1) (ccells F ++ [.int .i64 p1, .int .i64 p2, .int .u32 p3]) → (w'.alloc (.cells #[.int .i64 p1, .int .i64 p2, .int .u32 p3] 62)).grownBy w9 (Value.slice (some ⟨g, 0, none⟩) j cap).ownBlock → ((Value.slice (some ⟨g, 0, none⟩) j cap).ownBlock = some gg ∨ gg = (w'.alloc (.cells #[.int .i64 p1, .int .i64 p2, .int .u32 p3] 62)).heap.size) → OwnC w9 (w3.heap.size) (.slice (some ⟨gg, 0, none⟩) (j + 1) cap1) (F ++ [(p1, p2, p3)]) ∧ Below w3.heap.size w3 w9) := fun gg cap1 w9 h1 h2 h3 => by
            have h1' : OwnC w9 (w3.heap.size) (.slice (some ⟨gg, 0, none⟩) (j + 1) cap1) (F ++ [(p1, p2, p3)]) := by
              rw [← HFL.out] at h1 ⊢
              exact OwnC.snoc h1
            have hrow : ∀ k, (Value.slice (some ⟨g, 0, none⟩) j cap).ownBlock = some k → k = g := fun k e => by simpa [Value.ownBlock, eq_comm] using e
            have hbz := HBW.out.trans (halp.mono HBW.out.size)
            exact ⟨h1', Below.grown hbz h2 hbz.size (fun g' e => hlowp g' e)⟩
          have hbsp : (w3.heap.size) ≤ w'.heap.size := HBSp.out
          clear halp hlowp HBW HOW
          go_wp2_with (first | (at_builtin; (refine wpList_append_lies _ rfl (.tmp 54) (.tmp 56) 45 rfl ((w3.heap.size)) 62 ii (.agg #[.int .i64 0, .int .i64 0, .int .u32 0]) 3 24 Tryz.underlying45 HII.out.1 HII.out.2.1 HII.out.2.2.1 HII.out.2.2.2 rfl (by omega) _ _ _ rfl hownp _ 1 1 [.int .i64 p1, .int .i64 p2, .int .u32 p3] rfl rfl (cm_new _ _ _ _ _ (by simp)) (cm_oneB _ _ _) (by omega) (by unfold maxLen; omega) (by omega) (by simp; omega) _ rfl ?_; intro gg cap1 w9 hown1 hgrow hat hlt1; have HY : Hid _ := HZp.out gg cap1 w9 hown1 hgrow hat; clear hown1 hgrow hat hlt1)) | fail)
          go_wp2
          go_roundw
          case rel => exact ⟨j + 1, gg, cap1, F ++ [(p1, p2, p3)], by omega, by go_num, rfl, by rw [List.length_append, HFL.out]; rfl, HF2.out, HY.out.2, HY.out.1⟩
          case measure => simp [intOf]; omega
        · have hge : (300 : Int) ≤ (j : Int) := by omega
          have HT : Hid (ys = [] ∧ cd = 4 ∧ ln = (j : Int) + 1) := HNO2.out rfl (by omega)
          clear HNO1 HNO2 HPP HST
          go_wp2
          go_ret3
          exact ⟨_, _, by rw [HT.out.1, HT.out.2.1, HT.out.2.2]; rfl, HBX.out.alloc HBX.out.size _, by rw [HT.out.1]; exact cm_empty _ _ _ _⟩
      · have hb4 : (p4 == 0) = false := by simpa using hp4
        have hb5 : (p4 != 0) = true := by simpa using hp4
        have HT : Hid (ys = [] ∧ cd = p4 ∧ ln = (j : Int) + 1) := HNO1.out hp4
        clear HNO1 HNO2 HPP HST
        go_wp2
        go_ret3
        exact ⟨_, _, by rw [HT.out.1, HT.out.2.1, HT.out.2.2]; rfl, HBX.out.alloc HBX.out.size _, by rw [HT.out.1]; exact cm_empty _ _ _ _⟩
    · intro ℓ a' w' i o hI ho hi hL hdep K hK
      obtain ⟨x33, x34, x35, x36, x37, x38, x32, x39, x40, x11, x12, rfl, hr⟩ := hI
      have hi7 : i < 12 := hi
      have hcs : i = 0 ∨ i = 1 ∨ i = 2 ∨ i = 3 ∨ i = 4 ∨ i = 5 ∨ i = 6 ∨ i = 7 ∨ i = 8 ∨ i = 9 ∨ i = 10 ∨ i = 11 := by omega
      clear hi hi7
      rcases hcs with rfl | rfl | rfl | rfl | rfl | rfl | rfl | rfl | rfl | rfl | rfl | rfl
      · replace ho : some ({ dst := some 33, op := .load 43 (.tmp 2), type := 43, pos := "l21_script.go:43", after := #[], guard := none } : Oper) = some o := ho
        revert hK
        obtain rfl := Option.some.inj ho
        clear hdep ho
        have hl : ℓ 10 = false := by
          cases h7 : ℓ 10
          · rfl
          · have := (hr.cs h7).1; rw [this] at hL; cases hL
        have hgb := hr.gb
        intro hK
        rw [if_pos (by rfl)]
        try simp only [Act.put, List.setIfInBounds_toArray, List.set_cons_zero, List.set_cons_succ]
        refine wp_load_row (P := Tryz.prog) 43 (.tmp 2) rfl w.heap.size rfl 43 (tbA t a) (0, 0) _ (HXG.out _ hgb) Tryz.underlying43 rfl (by kernel_rfl) ?_
        exact hK.out _ _ (fun j => if j = 0 then true else ℓ j) ⟨(tbV t a), x34, x35, x36, x37, x38, x32, x39, x40, x11, x12, (by simp only [Act.put, List.setIfInBounds_toArray, List.set_cons_zero, List.set_cons_succ]), ⟨(fun g => ⟨rfl, (hr.cs g).2.1, (hr.cs g).2.2.1, (hr.cs g).2.2.2.1, (hr.cs g).2.2.2.2.1, (hr.cs g).2.2.2.2.2.1, (hr.cs g).2.2.2.2.2.2.1, (hr.cs g).2.2.2.2.2.2.2.1, (hr.cs g).2.2.2.2.2.2.2.2.1, trivial⟩), hr.gb, (fun _ => rfl), hr.f1, hr.f2, hr.f3, hr.f4, hr.f5, hr.f6, hr.f7, hr.f8, hr.f9, hr.f11⟩⟩ (if_pos rfl) (fun j hj => if_neg hj)
      · revert hK
        obtain rfl := Option.some.inj ho
        clear hdep ho
        have hgb := hr.gb
        intro hK
        rw [if_pos (by rfl)]
        try simp only [Act.put, List.setIfInBounds_toArray, List.set_cons_zero, List.set_cons_succ]
        go_simp
        exact hK.out _ _ (fun j => if j = 1 then true else ℓ j) ⟨x33, (.slice (some ⟨bl, ol, none⟩) n lc), x35, x36, x37, x38, x32, x39, x40, x11, x12, (by simp only [Act.put, List.setIfInBounds_toArray, List.set_cons_zero, List.set_cons_succ]), ⟨(fun g => ⟨(hr.cs g).1, rfl, (hr.cs g).2.2.1, (hr.cs g).2.2.2.1, (hr.cs g).2.2.2.2.1, (hr.cs g).2.2.2.2.2.1, (hr.cs g).2.2.2.2.2.2.1, (hr.cs g).2.2.2.2.2.2.2.1, (hr.cs g).2.2.2.2.2.2.2.2.1, trivial⟩), hr.gb, hr.f0, (fun _ => rfl), hr.f2, hr.f3, hr.f4, hr.f5, hr.f6, hr.f7, hr.f8, hr.f9, hr.f11⟩⟩ (if_pos rfl) (fun j hj => if_neg hj)
      · revert hK
        obtain rfl := Option.some.inj ho
        clear hdep ho
        have hgb := hr.gb
        intro hK
        rw [if_pos (by rfl)]
        try simp only [Act.put, List.setIfInBounds_toArray, List.set_cons_zero, List.set_cons_succ]
        go_simp
        exact hK.out _ _ (fun j => if j = 2 then true else ℓ j) ⟨x33, x34, (.int .i64 (j : Int)), x36, x37, x38, x32, x39, x40, x11, x12, (by simp only [Act.put, List.setIfInBounds_toArray, List.set_cons_zero, List.set_cons_succ]), ⟨(fun g => ⟨(hr.cs g).1, (hr.cs g).2.1, rfl, (hr.cs g).2.2.2.1, (hr.cs g).2.2.2.2.1, (hr.cs g).2.2.2.2.2.1, (hr.cs g).2.2.2.2.2.2.1, (hr.cs g).2.2.2.2.2.2.2.1, (hr.cs g).2.2.2.2.2.2.2.2.1, trivial⟩), hr.gb, hr.f0, hr.f1, (fun _ => rfl), hr.f3, hr.f4, hr.f5, hr.f6, hr.f7, hr.f8, hr.f9, hr.f11⟩⟩ (if_pos rfl) (fun j hj => if_neg hj)
      · revert hK
        obtain rfl := Option.some.inj ho
        have g1 : ℓ 1 = true := hdep { on := 1, ground := Ground.data } (by simp) rfl
        have g2 : ℓ 2 = true := hdep { on := 2, ground := Ground.data } (by simp) rfl
        clear hdep ho
        have hgb := hr.gb
        obtain rfl := hr.f1 g1
        obtain rfl := hr.f2 g2
        intro hK
        rw [if_pos (by rfl)]
        try simp only [Act.put, List.setIfInBounds_toArray, List.set_cons_zero, List.set_cons_succ]
        go_simp
        exact hK.out _ _ (fun j => if j = 3 then true else ℓ j) ⟨x33, (.slice (some ⟨bl, ol, none⟩) n lc), (.int .i64 (j : Int)), (.pointer (some ⟨bl, ol + j, none⟩)), x37, x38, x32, x39, x40, x11, x12, (by simp only [Act.put, List.setIfInBounds_toArray, List.set_cons_zero, List.set_cons_succ]), ⟨(fun g => ⟨(hr.cs g).1, (hr.cs g).2.1, (hr.cs g).2.2.1, rfl, (hr.cs g).2.2.2.2.1, (hr.cs g).2.2.2.2.2.1, (hr.cs g).2.2.2.2.2.2.1, (hr.cs g).2.2.2.2.2.2.2.1, (hr.cs g).2.2.2.2.2.2.2.2.1, trivial⟩), hr.gb, hr.f0, hr.f1, hr.f2, (fun _ => rfl), hr.f4, hr.f5, hr.f6, hr.f7, hr.f8, hr.f9, hr.f11⟩⟩ (if_pos rfl) (fun j hj => if_neg hj)
      · revert hK
        obtain rfl := Option.some.inj ho
        have g3 : ℓ 3 = true := hdep { on := 3, ground := Ground.data } (by simp) rfl
        clear hdep ho
        have hl : ℓ 10 = false := by
          cases h7 : ℓ 10
          · rfl
          · have := (hr.cs h7).2.2.2.2.1; rw [this] at hL; cases hL
        have hgb := hr.gb
        obtain rfl := hr.f3 g3
        intro hK
        rw [if_pos (by rfl)]
        try simp only [Act.put, List.setIfInBounds_toArray, List.set_cons_zero, List.set_cons_succ]
        have cc := HCG.out _ hgb
        go_simp
        exact hK.out _ _ (fun j => if j = 4 then true else ℓ j) ⟨x33, x34, x35, (.pointer (some ⟨bl, ol + j, none⟩)), (.string x), x38, x32, x39, x40, x11, x12, (by simp only [Act.put, List.setIfInBounds_toArray, List.set_cons_zero, List.set_cons_succ]), ⟨(fun g => ⟨(hr.cs g).1, (hr.cs g).2.1, (hr.cs g).2.2.1, (hr.cs g).2.2.2.1, rfl, (hr.cs g).2.2.2.2.2.1, (hr.cs g).2.2.2.2.2.2.1, (hr.cs g).2.2.2.2.2.2.2.1, (hr.cs g).2.2.2.2.2.2.2.2.1, trivial⟩), hr.gb, hr.f0, hr.f1, hr.f2, hr.f3, (fun _ => rfl), hr.f5, hr.f6, hr.f7, hr.f8, hr.f9, hr.f11⟩⟩ (if_pos rfl) (fun j hj => if_neg hj)
      · revert hK
        obtain rfl := Option.some.inj ho
        have g0 : ℓ 0 = true := hdep { on := 0, ground := Ground.data } (by simp) rfl
        have g4 : ℓ 4 = true := hdep { on := 4, ground := Ground.data } (by simp) rfl
        clear hdep ho
        have hl : ℓ 10 = false := by
          cases h7 : ℓ 10
          · rfl
          · have := (hr.cs h7).2.2.2.2.2.1; rw [this] at hL; cases hL
        have hgb := hr.gb
        obtain rfl := hr.f0 g0
        obtain rfl := hr.f4 g4
        intro hK
        rw [if_pos (by rfl)]
        try simp only [Act.put, List.setIfInBounds_toArray, List.set_cons_zero, List.set_cons_succ]
        go_simp
        refine Calls.mono (HRD.out _ hgb) ?_
        rintro e w9 ⟨rfl, hb9⟩
        have hr9 := hr.below hb9
        exact hK.out _ _ (fun j => if j = 5 then true else ℓ j) ⟨(tbV t a), x34, x35, x36, (.string x), (.tuple #[.agg #[.int .i64 p1, .int .i64 p2, .int .u32 p3], .int .i64 p4]), x32, x39, x40, x11, x12, (by simp only [Act.put, List.setIfInBounds_toArray, List.set_cons_zero, List.set_cons_succ]), ⟨(fun g => ⟨(hr9.cs g).1, (hr9.cs g).2.1, (hr9.cs g).2.2.1, (hr9.cs g).2.2.2.1, (hr9.cs g).2.2.2.2.1, rfl, (hr9.cs g).2.2.2.2.2.2.1, (hr9.cs g).2.2.2.2.2.2.2.1, (hr9.cs g).2.2.2.2.2.2.2.2.1, trivial⟩), hr9.gb, hr9.f0, hr9.f1, hr9.f2, hr9.f3, hr9.f4, (fun _ => rfl), hr9.f6, hr9.f7, hr9.f8, hr9.f9, hr9.f11⟩⟩ (if_pos rfl) (fun j hj => if_neg hj)
      · revert hK
        obtain rfl := Option.some.inj ho
        have g5 : ℓ 5 = true := hdep { on := 5, ground := Ground.data } (by simp) rfl
        clear hdep ho
        have hgb := hr.gb
        obtain rfl := hr.f5 g5
        intro hK
        rw [if_pos (by rfl)]
        try simp only [Act.put, List.setIfInBounds_toArray, List.set_cons_zero, List.set_cons_succ]
        go_simp
        exact hK.out _ _ (fun j => if j = 6 then true else ℓ j) ⟨x33, x34, x35, x36, x37, (.tuple #[.agg #[.int .i64 p1, .int .i64 p2, .int .u32 p3], .int .i64 p4]), (.tuple #[.agg #[.int .i64 p1, .int .i64 p2, .int .u32 p3], .int .i64 p4]), x39, x40, x11, x12, (by simp only [Act.put, List.setIfInBounds_toArray, List.set_cons_zero, List.set_cons_succ]), ⟨(fun g => ⟨(hr.cs g).1, (hr.cs g).2.1, (hr.cs g).2.2.1, (hr.cs g).2.2.2.1, (hr.cs g).2.2.2.2.1, (hr.cs g).2.2.2.2.2.1, rfl, (hr.cs g).2.2.2.2.2.2.2.1, (hr.cs g).2.2.2.2.2.2.2.2.1, trivial⟩), hr.gb, hr.f0, hr.f1, hr.f2, hr.f3, hr.f4, hr.f5, (fun _ => rfl), hr.f7, hr.f8, hr.f9, hr.f11⟩⟩ (if_pos rfl) (fun j hj => if_neg hj)
      · revert hK
        obtain rfl := Option.some.inj ho
        have g6 : ℓ 6 = true := hdep { on := 6, ground := Ground.data } (by simp) rfl
        clear hdep ho
        have hgb := hr.gb
        obtain rfl := hr.f6 g6
        intro hK
        rw [if_pos (by rfl)]
        try simp only [Act.put, List.setIfInBounds_toArray, List.set_cons_zero, List.set_cons_succ]
        go_simp
        exact hK.out _ _ (fun j => if j = 7 then true else ℓ j) ⟨x33, x34, x35, x36, x37, x38, (.tuple #[.agg #[.int .i64 p1, .int .i64 p2, .int .u32 p3], .int .i64 p4]), (.agg #[.int .i64 p1, .int .i64 p2, .int .u32 p3]), x40, x11, x12, (by simp only [Act.put, List.setIfInBounds_toArray, List.set_cons_zero, List.set_cons_succ]), ⟨(fun g => ⟨(hr.cs g).1, (hr.cs g).2.1, (hr.cs g).2.2.1, (hr.cs g).2.2.2.1, (hr.cs g).2.2.2.2.1, (hr.cs g).2.2.2.2.2.1, (hr.cs g).2.2.2.2.2.2.1, rfl, (hr.cs g).2.2.2.2.2.2.2.2.1, trivial⟩), hr.gb, hr.f0, hr.f1, hr.f2, hr.f3, hr.f4, hr.f5, hr.f6, (fun _ => rfl), hr.f8, hr.f9, hr.f11⟩⟩ (if_pos rfl) (fun j hj => if_neg hj)
      · revert hK
        obtain rfl := Option.some.inj ho
        have g6 : ℓ 6 = true := hdep { on := 6, ground := Ground.data } (by simp) rfl
        clear hdep ho
        have hgb := hr.gb
        obtain rfl := hr.f6 g6
        intro hK
        rw [if_pos (by rfl)]
        try simp only [Act.put, List.setIfInBounds_toArray, List.set_cons_zero, List.set_cons_succ]
        go_simp
        exact hK.out _ _ (fun j => if j = 8 then true else ℓ j) ⟨x33, x34, x35, x36, x37, x38, (.tuple #[.agg #[.int .i64 p1, .int .i64 p2, .int .u32 p3], .int .i64 p4]), x39, (.int .i64 p4), x11, x12, (by simp only [Act.put, List.setIfInBounds_toArray, List.set_cons_zero, List.set_cons_succ]), ⟨hr.cs, hr.gb, hr.f0, hr.f1, hr.f2, hr.f3, hr.f4, hr.f5, hr.f6, hr.f7, (fun _ => rfl), hr.f9, hr.f11⟩⟩ (if_pos rfl) (fun j hj => if_neg hj)
      · revert hK
        obtain rfl := Option.some.inj ho
        clear hdep ho
        have hl : ℓ 10 = false := by
          cases h7 : ℓ 10
          · rfl
          · have := (hr.cs h7).2.2.2.2.2.2.2.2.1; rw [this] at hL; cases hL
        have hgb := hr.gb
        intro hK
        rw [if_pos (by rfl)]
        try simp only [Act.put, List.setIfInBounds_toArray, List.set_cons_zero, List.set_cons_succ]
        have hr9 := hr.below (w9 := w'.alloc (.cells (#[.int .i64 0, .int .i64 0, .int .u32 0]) 62)) ((Below.refl _ _).alloc (Nat.le_refl _) _)
        go_simp
        exact hK.out _ _ (fun j => if j = 9 then true else ℓ j) ⟨x33, x34, x35, x36, x37, x38, x32, x39, x40, (.pointer (some ⟨w'.heap.size, 0, none⟩)), x12, (by simp only [Act.put, List.setIfInBounds_toArray, List.set_cons_zero, List.set_cons_succ]), ⟨(fun g => ⟨(hr9.cs g).1, (hr9.cs g).2.1, (hr9.cs g).2.2.1, (hr9.cs g).2.2.2.1, (hr9.cs g).2.2.2.2.1, (hr9.cs g).2.2.2.2.2.1, (hr9.cs g).2.2.2.2.2.2.1, (hr9.cs g).2.2.2.2.2.2.2.1, rfl, trivial⟩), hr9.gb, hr9.f0, hr9.f1, hr9.f2, hr9.f3, hr9.f4, hr9.f5, hr9.f6, hr9.f7, hr9.f8, (fun _ => ⟨w'.heap.size, rfl, hgb.size, (fun _ => new_row w' _ _ _ rfl), (fun g => by have g' : ℓ 10 = true := g; rw [hl] at g'; cases g')⟩), hr9.f11⟩⟩ (if_pos rfl) (fun j hj => if_neg hj)
      · replace ho : some ({ dst := none, op := .store 62 (.tmp 11) (.tmp 39), type := 0, pos := "l21_script.go:43", after := #[{ on := 9, ground := Ground.data }, { on := 7, ground := Ground.data }, { on := 5, ground := Ground.chain }, { on := 0, ground := Ground.phase }, { on := 1, ground := Ground.phase }, { on := 2, ground := Ground.phase }, { on := 3, ground := Ground.phase }, { on := 4, ground := Ground.phase }, { on := 5, ground := Ground.phase }, { on := 6, ground := Ground.phase }, { on := 7, ground := Ground.phase }, { on := 8, ground := Ground.textOnly Departure.lateStores }, { on := 9, ground := Ground.phase }], guard := none } : Oper) = some o := ho
        revert hK
        obtain rfl := Option.some.inj ho
        have g9 : ℓ 9 = true := hdep { on := 9, ground := Ground.data } (by simp) rfl
        have g7 : ℓ 7 = true := hdep { on := 7, ground := Ground.data } (by simp) rfl
        have g0 : ℓ 0 = true := hdep { on := 0, ground := Ground.phase } (by simp) rfl
        have g1 : ℓ 1 = true := hdep { on := 1, ground := Ground.phase } (by simp) rfl
        have g2 : ℓ 2 = true := hdep { on := 2, ground := Ground.phase } (by simp) rfl
        have g3 : ℓ 3 = true := hdep { on := 3, ground := Ground.phase } (by simp) rfl
        have g4 : ℓ 4 = true := hdep { on := 4, ground := Ground.phase } (by simp) rfl
        have g5 : ℓ 5 = true := hdep { on := 5, ground := Ground.phase } (by simp) rfl
        have g6 : ℓ 6 = true := hdep { on := 6, ground := Ground.phase } (by simp) rfl
        clear hdep ho
        have hgb := hr.gb
        obtain ⟨N, rfl, hN, hrow, _⟩ := hr.f9 g9
        obtain rfl := hr.f7 g7
        intro hK
        rw [if_pos (by rfl)]
        try simp only [Act.put, List.setIfInBounds_toArray, List.set_cons_zero, List.set_cons_succ]
        refine wp_store_row (P := Tryz.prog) 62 (.tmp 11) (.tmp 39) rfl N (#[.int .i64 p1, .int .i64 p2, .int .u32 p3]) rfl rfl 62 (#[.int .i64 0, .int .i64 0, .int .u32 0]) (hrow hL) (by kernel_rfl) rfl (by simp [Value.oneCell']) ?_
        exact hK.out _ _ (fun j => if j = 10 then true else ℓ j) ⟨x33, x34, x35, x36, x37, x38, x32, (.agg #[.int .i64 p1, .int .i64 p2, .int .u32 p3]), x40, (.pointer (some ⟨N, 0, none⟩)), x12, (by simp only [Act.put, List.setIfInBounds_toArray, List.set_cons_zero, List.set_cons_succ]), ⟨(fun _ => ⟨g0, g1, g2, g3, g4, g5, g6, g7, g9, trivial⟩), below_setRow hr.gb hN _, hr.f0, hr.f1, hr.f2, hr.f3, hr.f4, hr.f5, hr.f6, hr.f7, hr.f8, (fun _ => ⟨N, rfl, hN, (fun g => by cases g), fun _ => setRow_heap _ _ _ _ _ _ (hrow hL)⟩), hr.f11⟩⟩ (if_pos rfl) (fun j hj => if_neg hj)
      · revert hK
        obtain rfl := Option.some.inj ho
        have g8 : ℓ 8 = true := hdep { on := 8, ground := Ground.data } (by simp) rfl
        clear hdep ho
        have hgb := hr.gb
        obtain rfl := hr.f8 g8
        intro hK
        rw [if_pos (by rfl)]
        try simp only [Act.put, List.setIfInBounds_toArray, List.set_cons_zero, List.set_cons_succ]
        go_simp
        exact hK.out _ _ (fun j => if j = 11 then true else ℓ j) ⟨x33, x34, x35, x36, x37, x38, x32, x39, (.int .i64 p4), x11, (.int .i64 p4), (by simp only [Act.put, List.setIfInBounds_toArray, List.set_cons_zero, List.set_cons_succ]), ⟨hr.cs, hr.gb, hr.f0, hr.f1, hr.f2, hr.f3, hr.f4, hr.f5, hr.f6, hr.f7, hr.f8, hr.f9, (fun _ => rfl)⟩⟩ (if_pos rfl) (fun j hj => if_neg hj)
    · rintro a' w' ℓ ℓ' hℓ hI
      rw [← show ℓ = ℓ' from funext hℓ]
      exact hI
end Go.Proofs.YtmnoghhdkdjnmaaGreatDoor
