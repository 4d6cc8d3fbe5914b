
/-
  What is written into a guest's memory, by the specification and by the program: the same bytes. Conditions: the guest is right for its windows, nothing stands against the access.
-/
import Derived.Test.YtanffdedignegaaBas
import Derived.Test.YtanffdedignegaaProg
import Derived.Test.YtanffdedignegaaRdg
import Derived.Test.YtanffdedignegaaGrg
namespace Go.Proofs.Ytanffdedignegaa
open Go.ChangeShapes Go.WideShapes Go.ChangeAt Go.RowKit Go.Deep
set_option linter.unusedVariables false

theorem ON.put' {k : IntKind} {w : World} {lo hi off : Nat} {zs : List Int} {R : Nat} (h : ON k w lo hi (some ⟨R, off, none⟩) zs R) (i : Nat) (hi' : i < zs.length) (v : Int) :
    (∃ u, w.cell? ⟨R, off + i, none⟩ = some u) ∧ w.frozen? ⟨R, off + i, none⟩ = false ∧ Betw R (R + 1) w (w.setCell ⟨R, off + i, none⟩ (.int k v)) ∧ ON k (w.setCell ⟨R, off + i, none⟩ (.int k v)) lo hi (some ⟨R, off, none⟩) (zs.set i v) R := by
  obtain ⟨off', e, h1, h2, h3, h4⟩ := h.put i hi' v
  injection e with e
  injection e with e1 e2 e3
  subst e2
  exact ⟨h1, h2, h3, h4⟩
def putN (row : List Int) (fr : Nat) (zs : List Int) : Nat → List Int
  | 0 => row
  | k + 1 => (putN row fr zs k).set (fr + k) (zs.getD k 0)
theorem putN_len (row : List Int) (fr : Nat) (zs : List Int) (k : Nat) : (putN row fr zs k).length = row.length := by
  induction k with
  | zero => rfl
  | succ k ih => simp only [putN, List.length_set, ih]
def putRow (row : List Int) (fr S : Nat) (x : Int) : List Int := putN row fr (Wd.bytes x) S
theorem putRow_len (row : List Int) (fr S : Nat) (x : Int) : (putRow row fr S x).length = row.length := putN_len _ _ _ _
theorem own_other {k : IntKind} {w : World} {B : Nat} {zs : List Int} (h : Own k w B zs) (c o : Nat) (v : Value) (hn : c ≠ B) : Own k (w.setCell ⟨c, o, none⟩ v) B zs :=
  ⟨by simpa using h.lt, fun i hi => by rw [World.cell?_setCell_other _ _ _ _ (by intro e; injection e with e1 e2 e3; exact hn e1)]; exact h.cell i hi, fun i => by simpa using h.free i⟩
/-- What is known while bytes are written. -/
structure PF (w W : World) (bi oi lo hi B : Nat) (row : List Int) (ra : Option Addr) (rl rc : Nat) (pc : Int) (b2 o2 n mc K len ci b1 o1 : Nat) (bs : Int) (zs : List Int) : Prop where
  bt : Betw bi (bi + 1) w W
  on : ON .u8 W lo hi (some ⟨bi, oi, none⟩) row bi
  g : Bk W w.heap.size #[.slice ra rl rc, .int .u32 pc, .slice (some ⟨b2, o2, none⟩) n mc]
  e2 : W.cell? ⟨b2, o2 + K, none⟩ = some (.slice (some ⟨bi, oi, none⟩) len ci)
  p0 : W.cell? ⟨b1, o1 + K * 3, none⟩ = some (.int .i64 bs)
  bb : Own .u8 W B zs
  n1 : bi < w.heap.size
  n2 : b2 ≠ bi
  n3 : b1 ≠ bi
  n4 : bi < B
theorem PF.drew {w W : World} {bi oi lo hi B : Nat} {row : List Int} {ra : Option Addr} {rl rc : Nat} {pc : Int} {b2 o2 n mc K len ci b1 o1 : Nat} {bs : Int} {zs : List Int} (h : PF w W bi oi lo hi B row ra rl rc pc b2 o2 n mc K len ci b1 o1 bs zs) : PF w W.drew bi oi lo hi B row ra rl rc pc b2 o2 n mc K len ci b1 o1 bs zs :=
  ⟨h.bt.trans (Below.betw (Below.refl _ _).drew), h.on.below (Below.refl _ _).drew, h.g.below (Below.refl _ _).drew, h.e2, h.p0, h.bb.below (Below.refl _ _).drew, h.n1, h.n2, h.n3, h.n4⟩
theorem PF.put {w W : World} {bi oi lo hi B : Nat} {row : List Int} {ra : Option Addr} {rl rc : Nat} {pc : Int} {b2 o2 n mc K len ci b1 o1 : Nat} {bs : Int} {zs : List Int} (h : PF w W bi oi lo hi B row ra rl rc pc b2 o2 n mc K len ci b1 o1 bs zs) (i : Nat) (hi' : i < row.length) (v : Int) : PF w (W.setCell ⟨bi, oi + i, none⟩ (.int .u8 v)) bi oi lo hi B (row.set i v) ra rl rc pc b2 o2 n mc K len ci b1 o1 bs zs := by
  obtain ⟨h1, h2, h3, h4⟩ := h.on.put' i hi' v
  have := h.n1
  have := h.n4
  exact ⟨h.bt.trans h3, h4, h.g.other _ _ _ (by omega), st1 h.n2 h.e2, st1 h.n3 h.p0, own_other h.bb _ _ _ (by omega), h.n1, h.n2, h.n3, h.n4⟩
set_option maxRecDepth 20000 in
set_option maxHeartbeats 16000000 in
theorem spec_put (ra : Option Addr) (cap wn rl rc n mc K fr S b1 o1 b2 o2 bi oi len ci lo hi : Nat) (pc bs x : Int) (row : List Int) (w : World) (hx0 : 0 ≤ x) (hx1 : x ≤ 4294967295)
    (hat : ∀ X, Betw 0 0 w X → Calls Try.prog 34 #[.slice (some ⟨b1, o1, none⟩) wn cap, .int .i64 (bs + (fr : Int))] X fun e w' => e = .returned (.int .i64 (K : Int)) ∧ Below X.heap.size X w')
    (hba : w.cell? ⟨b1, o1 + K * 3, none⟩ = some (.int .i64 bs)) (hrow : w.cell? ⟨b2, o2 + K, none⟩ = some (.slice (some ⟨bi, oi, none⟩) len ci)) (hon : ON .u8 w lo hi (some ⟨bi, oi, none⟩) row bi) (hrl : row.length = len) (hKw : K < wn) (hK : K < n) (hb0 : 0 ≤ bs) (hb1 : bs ≤ 2048) (hin : fr + S ≤ len) (hln : len ≤ 2048) (hS1 : 1 ≤ S) (hS4 : S ≤ 4) (hn2 : b2 ≠ bi) (hn3 : b1 ≠ bi) :
    Calls Try.prog 51 #[.slice (some ⟨b1, o1, none⟩) wn cap, gst ra rl rc pc (some ⟨b2, o2, none⟩) n mc, .int .i64 (bs + (fr : Int)), .int .i64 (S : Int), .int .u32 x] w fun e w' => e = .returned (.tuple #[]) ∧ Betw bi (bi + 1) w w' ∧ ON .u8 w' lo hi (some ⟨bi, oi, none⟩) (putRow row fr S x) bi := by
  have hbw : Below w.heap.size w (w.alloc (.cells #[.slice ra rl rc, .int .u32 pc, .slice (some ⟨b2, o2, none⟩) n mc] 29)) := (Below.refl _ w).alloc (Nat.le_refl _) _
  have B0 := Bk.new w #[.slice ra rl rc, .int .u32 pc, .slice (some ⟨b2, o2, none⟩) n mc] 29 w.heap.size rfl
  have HAT : Hid _ := hat _ (Below.betw hbw)
  have hbi : bi < w.heap.size := by
    obtain ⟨_, _, _, _, h, _⟩ := hon (by omega)
    exact h
  have HO : Hid (ON .u8 w lo hi (some ⟨bi, oi, none⟩) row bi ∧ w.cell? ⟨b2, o2 + K, none⟩ = some (.slice (some ⟨bi, oi, none⟩) len ci) ∧ w.cell? ⟨b1, o1 + K * 3, none⟩ = some (.int .i64 bs)) := ⟨hon, hrow, hba⟩
  have HB : Hid (Below w.heap.size w _) := hbw
  clear hat hba hrow hon hbw
  go_enter Try.func51, Try.ntmps51
  go_wp2_with fail
  refine Calls.mono HAT.out ?_
  rintro u w1 ⟨rfl, hb1'⟩
  have HB1 : Hid (Below w.heap.size w w1) := HB.out.trans (hb1'.mono HB.out.size)
  replace B0 := B0.below hb1'
  clear hb1' HAT HB
  go_wp2_with fail
  refine Calls.mono (spec_bytes x _ hx0 hx1) ?_
  rintro u w2 ⟨rfl, hb2', hsz2, how2⟩
  have hb2w : Below w.heap.size w w2 := HB1.out.trans (hb2'.mono HB1.out.size)
  have hsz1 : w.heap.size ≤ w1.heap.size := HB1.out.size
  have HP0 : Hid (PF w w2 bi oi lo hi w1.heap.size (putN row fr (Wd.bytes x) 0) ra rl rc pc b2 o2 n mc K len ci b1 o1 bs (Wd.bytes x)) := ⟨Below.betw hb2w, HO.out.1.below hb2w, B0.below hb2', kept_cell hb2w HO.out.2.1, kept_cell hb2w HO.out.2.2, how2, hbi, hn2, hn3, by omega⟩
  have HPR : Hid (putRow row fr S x = putN row fr (Wd.bytes x) S ∧ (Wd.bytes x).length = 4) := ⟨rfl, rfl⟩
  obtain ⟨zs, HZ⟩ : ∃ zs, Hid (Wd.bytes x = zs) := ⟨_, rfl⟩
  rw [HZ.out] at HP0 HPR
  have hK' : (K : Int) < (n : Int) := by omega
  have hKw' : (K : Int) < (wn : Int) := by omega
  have HL : Hid (row.length = len) := hrl
  have hw0 : IntKind.i64.wrap (bs + (fr : Int) - bs) = (fr : Int) := by rw [IntKind.wrap_i64]; omega
  clear hrl hb2w hb2' how2 hsz2 B0 HO HB1
  go_wp2
  go_loopw [12] (fun i wr => ∃ k : Nat, k ≤ S ∧ i = .int .i64 k ∧ Hid (PF w wr bi oi lo hi w1.heap.size (putN row fr zs k) ra rl rc pc b2 o2 n mc K len ci b1 o1 bs zs)) (fun i _ => S - (intOf i).toNat)
  case atStart => exact ⟨0, by omega, rfl, HP0.out⟩
  case round =>
    obtain ⟨k, hk, rfl, HP⟩ := hrel
    by_cases hkS : k < S
    · have hkS' : (k : Int) < (S : Int) := by omega
      have hpf := HP.out
      have c2 := hpf.g.cell 2 _ rfl
      have e2 := hpf.e2
      have p0 := hpf.p0
      have q0 := hpf.bb.cell k (by rw [HPR.out.2]; omega)
      obtain ⟨z, HZZ⟩ : ∃ z, Hid (zs.getD k 0 = z) := ⟨_, rfl⟩
      rw [HZZ.out] at q0
      have hi0 : fr + k < (putN row fr zs k).length := by rw [putN_len, HL.out]; omega
      obtain ⟨⟨u0, hu0⟩, hz0, _, _⟩ := hpf.on.put' (fr + k) hi0 z
      have HP1 : Hid (PF w (wr.setCell ⟨bi, oi + (fr + k), none⟩ (.int .u8 z)).drew bi oi lo hi w1.heap.size (putN row fr zs (k + 1)) ra rl rc pc b2 o2 n mc K len ci b1 o1 bs zs) := by
        have := (hpf.put (fr + k) hi0 z).drew
        rw [putN, HZZ.out]
        exact this
      have q1 := HP1.out.bb.cell k (by rw [HPR.out.2]; omega)
      rw [HZZ.out] at q1
      have HQ1 : Hid _ := q1
      clear q1
      have hw1 : IntKind.i64.wrap ((fr : Int) + (k : Int)) = (fr : Int) + (k : Int) := by rw [IntKind.wrap_i64]; omega
      have hlt1 : (fr : Int) + (k : Int) < (len : Int) := by omega
      have hk4 : (k : Int) < 4 := by omega
      clear hpf hi0 HP
      go_wp2
      go_region_held_law (fun w' => w'.cell? ⟨w.heap.size, 2, none⟩ = some (.slice (some ⟨b2, o2, none⟩) n mc) ∧ w'.cell? ⟨b2, o2 + K, none⟩ = some (.slice (some ⟨bi, oi, none⟩) len ci) ∧ w'.cell? ⟨b1, o1 + K * 3, none⟩ = some (.int .i64 bs) ∧ w'.cell? ⟨w1.heap.size, k, none⟩ = some (.int .u8 z)) (first | exact ⟨c2, e2, p0, q0⟩ | exact ⟨HP1.out.g.cell 2 _ rfl, HP1.out.e2, HP1.out.p0, HQ1.out⟩) (first | fail)
      all_goals
        go_wp2
        go_roundw
        case rel => exact ⟨k + 1, by omega, by go_num, HP1⟩
        case measure => simp [intOf]; omega
    · obtain rfl : k = S := by omega
      go_wp2
      go_end0
      exact ⟨rfl, HP.out.bt, by rw [HPR.out.1]; exact HP.out.on⟩
end Go.Proofs.Ytanffdedignegaa
