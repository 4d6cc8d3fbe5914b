/-
  What the draw of a list of words returns: at most 257 words, in memory of its own; and the laws' own helpers. Conditions: the bytes drawn from are at most 1048576.
  What the draw of a list of words returns: at most 257 words, in memory of its own. Conditions: the bytes drawn from are at most 1048576.
-/
import Derived.Test.YtdjapcfejmhjnaaGreatDoorDi
import Derived.Test.YtdjapcfejmhjnaaGreatDoorAmx
import Derived.Test.YtdjapcfejmhjnaaGreatDoorDis
import Derived.WalkSpells
namespace Go.Proofs.YtdjapcfejmhjnaaGreatDoor
open Go.ChangeShapes Go.WideShapes Go.ChangeAt Go.RowKit Go.Deep
set_option linter.unusedVariables false
set_option maxRecDepth 20000

theorem Turn.grown {B : Nat} {w w' : World} (h : Turn B w w') : w.grownBy w' (some B) := ⟨h.os, h.tape, h.output, h.size, fun k hk hn => h.block k hk (fun e => hn (by rw [e]))⟩
theorem Cur.belowC {w w' : World} {B C : Nat} {a : Option Addr} {zs : List Int} {cap : Nat} (h : Cur w B a zs cap) (hb : Below C w w') (hB : B < C) (ha : ∀ b off, a = some ⟨b, off, none⟩ → 0 < zs.length → b < C) : Cur w' B a zs cap := by
  have hc : ∀ o, w'.cell? ⟨B, o, none⟩ = w.cell? ⟨B, o, none⟩ := fun o => hb.cell (p := ⟨B, o, none⟩) hB
  refine ⟨Nat.lt_of_lt_of_le h.lt hb.size, (hc 0).trans h.c0, ?_, ?_, fun i => (hb.frozen (p := ⟨B, i, none⟩) hB).trans (h.free i), ?_, h.far, h.byte, h.small⟩
  · obtain ⟨i, hi, e⟩ := h.c1
    exact ⟨i, hi, (hc 1).trans e⟩
  · obtain ⟨x, e⟩ := h.c2
    exact ⟨x, (hc 2).trans e⟩
  · intro h0
    obtain ⟨b, off, e, hlt, hcl⟩ := h.seg h0
    exact ⟨b, off, e, Nat.lt_of_lt_of_le hlt hb.size, fun i hi => (hb.cell (p := ⟨b, off + i, none⟩) (ha b off e h0)).trans (hcl i hi)⟩
theorem Turn.then_below {B : Nat} {a b c : World} (h : Turn B a b) (hb : Below a.heap.size b c) : Turn B a c :=
  ⟨hb.os.trans h.os, hb.tape.trans h.tape, hb.output.trans h.output, Nat.le_trans h.size hb.size, fun k hk hn => (hb.block k hk).trans (h.block k hk hn)⟩
theorem wf_u32 (x : Int) (h0 : 0 ≤ x) (h1 : x ≤ 4294967295) : (Lit.int .u32 x).wf = true := by
  simp [Lit.wf, IntKind.min, IntKind.max, IntKind.bits, IntKind.signed]
  omega
theorem draw_word (w : World) (B : Nat) (a : Option Addr) (zs : List Int) (cap : Nat) (hc : Cur w B a zs cap) :
    Calls Tryz.prog 24 #[.pointer (some ⟨B, 0, none⟩)] w fun e w' => ∃ x : Int, e = .returned (.int .u32 x) ∧ 0 ≤ x ∧ x ≤ 4294967295 ∧ Cur w' B a zs cap ∧ Turn B w w' := by
  go_enter Tryz.func24, Tryz.ntmps24
  go_wp2_with fail
  refine (draw_below _ _ _ _ _ _ hc (by omega) (by omega)).mono ?_
  rintro e w1 ⟨x, rfl, hx0, hx1, hc1, ht1⟩
  by_cases x0 : x = 0
  · have hb : (x == 0) = true := by simp [x0]
    clear x0
    go_wp2_with fail
    refine (draw_pick _ B w1.heap.size _ _ _ [0, 1, 2, 31, 32, 255, 256, 2147483647, 2147483648, 4294967295, 4294967294] (hc1.below ((Below.refl _ _).alloc (Nat.le_refl _) _)) (own_lit .i64 w1 3 _) (by have := hc1.lt; omega) (by decide) (by decide)).mono ?_
    rintro e w2 ⟨y, rfl, hy, hc2, ht2⟩
    have hy2 : 0 ≤ y ∧ y ≤ 4294967295 := by simp at hy; omega
    obtain ⟨hy0, hy1⟩ := hy2
    clear hy
    go_wp2
    go_ret
    exact ⟨_, rfl, by omega, by omega, hc2, (ht1.alloc _).trans ht2⟩
  · have hb : (x == 0) = false := beq_eq_false_iff_ne.2 x0
    clear x0
    by_cases x1 : x = 1
    · have hb1 : (x == 1) = true := by simp [x1]
      clear x1
      go_wp2_with fail
      refine (draw_below _ _ _ _ _ _ hc1 (by omega) (by omega)).mono ?_
      rintro e w2 ⟨y, rfl, hy0, hy1, hc2, ht2⟩
      go_wp2
      go_ret
      exact ⟨_, rfl, by omega, by omega, hc2, ht1.trans ht2⟩
    · have hb1 : (x == 1) = false := beq_eq_false_iff_ne.2 x1
      clear x1
      go_wp2_with fail
      refine (draw_below _ _ _ _ _ _ hc1 (by omega) (by omega)).mono ?_
      rintro e w2 ⟨y, rfl, hy0, hy1, hc2, ht2⟩
      go_wp2_with fail
      refine (draw_below _ _ _ _ _ _ hc2 (by omega) (by omega)).mono ?_
      rintro e w3 ⟨z, rfl, hz0, hz1, hc3, ht3⟩
      go_wp2
      go_ret
      exact ⟨_, rfl, by omega, by omega, hc3, (ht1.trans ht2).trans ht3⟩
theorem draw_once (w : World) (B : Nat) (a : Option Addr) (zs : List Int) (cap : Nat) (n : Int) (hc : Cur w B a zs cap) (h1 : 1 ≤ n) (h2 : n ≤ 4294967296) :
    Calls Tryz.prog 21 #[.pointer (some ⟨B, 0, none⟩), .int .i64 n] w fun e w' => ∃ x : Bool, e = .returned (.bool x) ∧ Cur w' B a zs cap ∧ Turn B w w' := by
  go_enter Tryz.func21, Tryz.ntmps21
  go_wp2_with fail
  refine (draw_below _ B _ _ _ n hc h1 h2).mono ?_
  rintro e w1 ⟨x, rfl, hx0, hx1, hc1, ht1⟩
  go_wp2
  go_ret
  exact ⟨_, rfl, hc1, ht1⟩
theorem draw_size (a : Option Addr) (n cap : Nat) (w : World) (h : n ≤ 1048576) : Calls Tryz.prog 20 #[.slice a n cap, .int .i64 40] w fun e w' => ∃ x : Int, e = .returned (.int .i64 x) ∧ 1 ≤ x ∧ x ≤ 40 ∧ w' = w := by
  by_cases hx : 40 < 2 + (n : Int) / 20
  · have h1 : decide (40 < 2 + (n : Int) / 20) = true := decide_eq_true hx
    go_enter Tryz.func20, Tryz.ntmps20
    go_wp2
    go_ret
    exact ⟨_, rfl, by omega, by omega, rfl⟩
  · have h1 : decide (40 < 2 + (n : Int) / 20) = false := decide_eq_false hx
    go_enter Tryz.func20, Tryz.ntmps20
    go_wp2
    go_ret
    exact ⟨_, rfl, by omega, by omega, rfl⟩
theorem big_no (a : Option Addr) (n cap : Nat) (w : World) (h : n ≤ 1048576) : Calls Tryz.prog 6 #[.slice a n cap] w fun e w' => e = .returned (.bool false) ∧ w' = w := by
  have h1 : decide (1048576 < (n : Int)) = false := decide_eq_false (by omega)
  go_enter Tryz.func6, Tryz.ntmps6
  go_wp2
  go_ret
  exact ⟨rfl, rfl⟩
theorem big_yes (a : Option Addr) (n cap : Nat) (w : World) (h : ¬ n ≤ 1048576) : Calls Tryz.prog 6 #[.slice a n cap] w fun e w' => e = .returned (.bool true) ∧ w' = w := by
  have h1 : decide (1048576 < (n : Int)) = true := decide_eq_true (by omega)
  go_enter Tryz.func6, Tryz.ntmps6
  go_wp2
  go_ret
  exact ⟨rfl, rfl⟩
set_option maxHeartbeats 400000 in
theorem eq_words (a b : Option Addr) (ca cb n : Nat) (zs : List Int) (w : World) (ha : Seg .u32 w a zs) (hb : Seg .u32 w b zs) (Hn : Hid (n = zs.length)) (hn' : n ≤ 1048576) :
    Calls Tryz.prog 10 #[.slice a n ca, .slice b n cb] w fun e w' => e = .returned (.bool true) ∧ ∃ m, w' = w.drewN m := by
  go_enter Tryz.func10, Tryz.ntmps10
  go_wp2
  go_loopw [5] (fun i wr => ∃ k m : Nat, k ≤ n ∧ i = .int .i64 k ∧ wr = w.drewN m) (fun i _ => n - (intOf i).toNat)
  case atStart => exact ⟨0, 0, by omega, rfl, rfl⟩
  case round =>
    obtain ⟨k, m, hk, rfl, rfl⟩ := hrel
    by_cases hlt : k < n
    · have hl : k < zs.length := by rw [← Hn.out]; exact hlt
      obtain ⟨b1, o1, rfl, hbl1, hc1⟩ := ha.at k hl
      obtain ⟨b2, o2, rfl, hbl2, hc2⟩ := hb.at k hl
      generalize zs.getD k 0 = z at hc1 hc2
      clear ha hb hl hbl1 hbl2
      go_wp2
      go_quiet (fail)
      go_wp2
      go_roundw
      case rel => exact ⟨k + 1, _, by omega, by go_num, rfl⟩
      case measure => simp [intOf]; omega
    · go_wp2
      go_ret
      exact ⟨rfl, _, rfl⟩
end Go.Proofs.YtdjapcfejmhjnaaGreatDoor
namespace Go.Proofs.YtdjapcfejmhjnaaGreatDoor
open Go.ChangeShapes Go.WideShapes Go.ChangeAt Go.RowKit Go.Deep
set_option linter.unusedVariables false
set_option maxRecDepth 20000

theorem info42 : (Tryz.prog.info? 42).map (fun i => (i.zero, i.size, i.bytes)) = some (some (.int .u32 0), 1, 4) := by kernel_rfl
theorem code_range (op a b c m : Int) (h : instrOk op a b c m = true) : 0 ≤ code op a b c m ∧ code op a b c m ≤ 4294967295 := by
  obtain ⟨h1, h2, h3, h4, h5, h6, h7, h8, h9, h10⟩ := instrOk_bounds op a b c m h
  unfold code
  omega
theorem spec_enc_any (op a b c m : Int) (w : World) : Calls Tryz.prog 22 #[ins op a b c m] w fun e w' => ∃ (z : Int) (q : Bool), e = .returned (.tuple #[.int .u32 z, .bool q]) ∧ 0 ≤ z ∧ z ≤ 4294967295 ∧ Below w.heap.size w w' := by
  cases h : instrOk op a b c m with
  | true => exact (spec_enc op a b c m w h).mono (fun e w' ⟨h1, h2⟩ => ⟨_, _, h1, (code_range op a b c m h).1, (code_range op a b c m h).2, h2⟩)
  | false => exact (spec_enc_no op a b c m w h).mono (fun e w' ⟨h1, h2⟩ => ⟨_, _, h1, by omega, by omega, h2⟩)
/-- What a round keeps. -/
structure Wl (w wr : World) (B : Nat) (v : Value) (ys : List Int) (a : Option Addr) (zs : List Int) (cap : Nat) : Prop where
  nil : v ≠ .slice none 0 0
  own : wr.ownsRow w.heap.size 42 1 v ys.length (ys.map (Value.int .u32))
  wf : ∀ y ∈ ys, (Lit.int .u32 y).wf = true
  cur : Cur wr B a zs cap
  below : Below w.heap.size w wr
  hB : w.heap.size ≤ B
  apart : v.ownBlock ≠ some B
  low : ∀ b off, a = some ⟨b, off, none⟩ → 0 < zs.length → b < w.heap.size
theorem Cur.kept {w w' : World} {B : Nat} {row : Option Nat} {a : Option Addr} {zs : List Int} {cap : Nat} (h : Cur w B a zs cap) (g : w.grownBy w' row) (h1 : row ≠ some B) (h2 : ∀ b off, a = some ⟨b, off, none⟩ → 0 < zs.length → row ≠ some b) : Cur w' B a zs cap := by
  have hx : ∀ i, w'.cell? ⟨B, i, none⟩ = w.cell? ⟨B, i, none⟩ := fun i => World.cell?_of_block (w := w) (g.block B h.lt (fun e => h1 e.symm))
  obtain ⟨i, hi, e1⟩ := h.c1
  obtain ⟨x, e2⟩ := h.c2
  refine ⟨Nat.lt_of_lt_of_le h.lt g.size, (hx 0).trans h.c0, ⟨i, hi, (hx 1).trans e1⟩, ⟨x, (hx 2).trans e2⟩, fun i => (World.frozen?_of_block (w := w) (g.block B h.lt (fun e => h1 e.symm))).trans (h.free i), ?_, h.far, h.byte, h.small⟩
  intro h0
  obtain ⟨b, off, e, hlt, hc⟩ := h.seg h0
  exact ⟨b, off, e, Nat.lt_of_lt_of_le hlt g.size, fun i hi => (World.cell?_of_block (w := w) (g.block b hlt (fun e' => h2 b off e h0 e'.symm))).trans (hc i hi)⟩
theorem Wl.turn {w wr w' : World} {B : Nat} {v : Value} {ys : List Int} {a : Option Addr} {zs : List Int} {cap : Nat} (h : Wl w wr B v ys a zs cap) (ht : Turn B wr w') (hc : Cur w' B a zs cap) : Wl w w' B v ys a zs cap :=
  ⟨h.nil, h.own.kept ht.grown (.inr h.apart), h.wf, hc, h.below.trans (ht.below h.hB h.below.size), h.hB, h.apart, h.low⟩
theorem Wl.hop {w wr w' : World} {B : Nat} {v : Value} {ys : List Int} {a : Option Addr} {zs : List Int} {cap : Nat} (h : Wl w wr B v ys a zs cap) (hb : Below wr.heap.size wr w') : Wl w w' B v ys a zs cap :=
  h.turn (Turn.of_below hb) (h.cur.below hb)
theorem Wl.word {w wr w4 : World} {B g c H : Nat} {v : Value} {ys : List Int} {z : Int} {a : Option Addr} {zs : List Int} {cap : Nat} (h : Wl w wr B v ys a zs cap) (h0 : 0 ≤ z) (h1 : z ≤ 4294967295)
    (ho : w4.ownsRow w.heap.size 42 1 (.slice (some ⟨g, 0, none⟩) (ys.length + 1) c) (ys.length + 1) (ys.map (Value.int .u32) ++ [.int .u32 z])) (hg : wr.grownBy w4 v.ownBlock) (hat : v.ownBlock = some g ∨ g = H) (hH : wr.heap.size = H) :
    Wl w w4 B (.slice (some ⟨g, 0, none⟩) (ys.length + 1) c) (ys ++ [z]) a zs cap := by
  have hbk : ∀ k, v.ownBlock = some k → w.heap.size ≤ k := fun k hk => OwnW.block h.own k hk
  refine ⟨by simp, by simpa using ho, ?_, h.cur.kept hg h.apart (fun b off e hz e' => ?_), h.below.grown hg h.below.size hbk, h.hB, ?_, h.low⟩
  · intro y hy
    rcases List.mem_append.1 hy with hy | hy
    · exact h.wf y hy
    · simp at hy; subst hy; exact wf_u32 _ h0 h1
  · have := h.low b off e hz
    have := hbk b e'
    omega
  · have := h.cur.lt
    rcases hat with e | e
    · have := h.apart
      intro c
      apply this
      simp [Value.ownBlock] at c
      rw [e, c]
    · simp [Value.ownBlock]; omega
theorem Wl.start {w w1 : World} {a : Option Addr} {zs : List Int} {cap : Nat} (hl : ∀ b off, a = some ⟨b, off, none⟩ → 0 < zs.length → b < w.heap.size) (hc : Cur w1 w.heap.size a zs cap) (hb : Below w.heap.size w w1) : Wl w (w1.alloc (.cells #[] 42)) w.heap.size (.slice (some ⟨w1.heap.size, 0, none⟩) 0 0) [] a zs cap :=
  ⟨by simp, own_nil w1 w.heap.size 42 1 hb.size, by simp, hc.below ((Below.refl _ _).alloc (Nat.le_refl _) _), hb.alloc hb.size _, Nat.le_refl _, by have := hc.lt; simp [Value.ownBlock]; omega, hl⟩
set_option maxHeartbeats 1000000 in
theorem draw_dis (a : Option Addr) (n cap : Nat) (zs : List Int) (w : World) (Hn : Hid (n = zs.length)) (hs : Seg .u8 w a zs) (hb : ∀ z ∈ zs, (Lit.int .u8 z).wf = true) (hn : n ≤ 1048576) :
    Calls Tryz.prog 7 #[.slice a n cap] w fun e w' => ∃ (v : Value) (ys : List Int), e = .returned v ∧ OwnW w' w.heap.size v ys ∧ Words ys ∧ ys.length ≤ 257 ∧ Below w.heap.size w w' := by
  obtain ⟨i0, hi, hz0, hz1, hz2⟩ := info_parts info42
  have HNW : Hid (∀ X, X = w → Calls Tryz.prog 18 #[.slice a n cap] X fun e w' => e = .returned (.pointer (some ⟨X.heap.size, 0, none⟩)) ∧ Cur w' X.heap.size a zs cap ∧ Below X.heap.size X w') := fun X hX => by
    subst hX; rw [Hn.out]; exact draw_new X a zs cap hs hb (by rw [← Hn.out]; exact hn)
  have HS : Hid _ := seg_lt hs
  clear hs hb
  go_enter Tryz.func7, Tryz.ntmps7
  go_wp2_with fail
  refine (HNW.out _ rfl).mono ?_
  rintro e w1 ⟨rfl, hc1, hb1⟩
  go_wp2_with fail
  refine (draw_size _ _ _ _ hn).mono ?_
  rintro e w2 ⟨m, rfl, hm0, hm1, hw2⟩
  subst hw2
  have HW0 : Hid (Wl w (w1.alloc (.cells #[] 42)) w.heap.size (.slice (some ⟨w1.heap.size, 0, none⟩) 0 0) [] a zs cap) := Wl.start HS.out hc1 hb1
  clear hc1 hb1
  go_wp2_with fail
  refine (draw_below _ _ _ _ _ m HW0.out.cur hm0 (by omega)).mono ?_
  rintro e w3 ⟨x, rfl, hx0, hx1, hc3, ht3⟩
  have HW3 : Hid _ := HW0.out.turn ht3 hc3
  clear hc3 ht3 HW0
  go_wp2_with fail
  refine (draw_once _ _ _ _ _ 20 HW3.out.cur (by omega) (by omega)).mono ?_
  rintro e w4 ⟨q, rfl, hc4, ht4⟩
  have HW4 : Hid _ := HW3.out.turn ht4 hc4
  clear hc4 ht4 HW3
  cases q with
  | false =>
    go_wp2
    go_loopw [4, 6] (fun vv i wr => ∃ (k : Nat) (ys : List Int), (k : Int) ≤ x ∧ i = .int .i64 k ∧ Hid (k = ys.length) ∧ Hid (Wl w wr w.heap.size vv ys a zs cap)) (fun _ i _ => (x).toNat - (intOf i).toNat)
    case atStart => exact ⟨0, [], by omega, rfl, rfl, HW4⟩
    case round =>
      obtain ⟨k, ys, hk, rfl, HK, HL⟩ := hrel
      by_cases hlt : (k : Int) < x
      · go_wp2_with fail
        refine (draw_ins _ _ _ _ _ HL.out.cur).mono ?_
        rintro e w6 ⟨op, ia, ib, ic, im, rfl, hc6, ht6⟩
        have HL6 : Hid _ := HL.out.turn ht6 hc6
        clear hc6 ht6 HL
        go_wp2_with fail
        refine (spec_enc_any op ia ib ic im _).mono ?_
        rintro e w7 ⟨z, q, rfl, hz0', hz1', hb7⟩
        have HL7 : Hid _ := HL6.out.hop hb7
        clear hb7 HL6
        go_wp2_with fail
        refine (draw_once _ _ _ _ _ 5 HL7.out.cur (by omega) (by omega)).mono ?_
        rintro e w8 ⟨q2, rfl, hc8, ht8⟩
        have HL8 : Hid _ := HL7.out.turn ht8 hc8
        clear hc8 ht8 HL7
        cases q2 with
        | false =>
            have HL4 : Hid _ := HL8.out.hop ((Below.refl _ _).alloc (Nat.le_refl _) (.cells #[.int .u32 z] 42))
            have hown := HL4.out.own
            rw [← HK.out] at hown
            have hsz : w.heap.size ≤ w8.heap.size := HL8.out.below.size
            go_wp2_with (at_builtin; (refine wpList_append_lies _ rfl _ _ 24 rfl w.heap.size 42 i0 (.int .u32 0) 1 4 Tryz.underlying24 hi hz0 hz1 hz2 rfl (by omega) _ _ _ rfl hown _ 1 1 [.int .u32 z] rfl rfl (newsWH _ _ _ (by simp)) (oneW _) (by omega) (by unfold maxLen; omega) (by omega) (by simp; omega) _ rfl ?_; intro g cap1 w9 hown1 hgrow hat hlt1))
            go_wp2
            go_roundw
            case rel =>
              refine ⟨k + 1, ys ++ [z], by omega, by go_num, ?_, ?_⟩
              · have := HK.out; show _ = _; simp; omega
              · have hN := HK.out
                subst hN
                exact HL4.out.word hz0' hz1' hown1 hgrow hat rfl
            case measure => simp [intOf]; omega
        | true =>
            go_wp2_with fail
            refine (draw_word _ _ _ _ _ HL8.out.cur).mono ?_
            rintro e wa ⟨z2, rfl, hy0', hy1', hca, hta⟩
            have HLa : Hid _ := HL8.out.turn hta hca
            clear hca hta HL8
            have HL4 : Hid _ := HLa.out.hop ((Below.refl _ _).alloc (Nat.le_refl _) (.cells #[.int .u32 z2] 42))
            have hown := HL4.out.own
            rw [← HK.out] at hown
            have hsz : w.heap.size ≤ wa.heap.size := HLa.out.below.size
            go_wp2_with (at_builtin; (refine wpList_append_lies _ rfl _ _ 24 rfl w.heap.size 42 i0 (.int .u32 0) 1 4 Tryz.underlying24 hi hz0 hz1 hz2 rfl (by omega) _ _ _ rfl hown _ 1 1 [.int .u32 z2] rfl rfl (newsWH _ _ _ (by simp)) (oneW _) (by omega) (by unfold maxLen; omega) (by omega) (by simp; omega) _ rfl ?_; intro g cap1 w9 hown1 hgrow hat hlt1))
            go_wp2
            go_roundw
            case rel =>
              refine ⟨k + 1, ys ++ [z2], by omega, by go_num, ?_, ?_⟩
              · have := HK.out; show _ = _; simp; omega
              · have hN := HK.out
                subst hN
                exact HL4.out.word hy0' hy1' hown1 hgrow hat rfl
            case measure => simp [intOf]; omega
      · have hkl : ys.length ≤ 257 := by have := HK.out; omega
        have HO : Hid _ := HL.out.own
        obtain ⟨a4, c4, rfl, -⟩ := OwnW.seg HL.out.own
        go_wp2
        go_ret
        exact ⟨_, rfl, ys, HL.out.own, HL.out.wf, hkl, HL.out.below⟩
  | true =>
    go_wp2_with fail
    refine (draw_below _ _ _ _ _ 2 HW4.out.cur (by omega) (by omega)).mono ?_
    rintro e w5 ⟨y, rfl, hy0, hy1, hc5, ht5⟩
    have HW5 : Hid _ := HW4.out.turn ht5 hc5
    clear hc5 ht5 HW4
    go_wp2
    go_loopw [4, 6] (fun vv i wr => ∃ (k : Nat) (ys : List Int), (k : Int) ≤ 256 + y ∧ i = .int .i64 k ∧ Hid (k = ys.length) ∧ Hid (Wl w wr w.heap.size vv ys a zs cap)) (fun _ i _ => (256 + y).toNat - (intOf i).toNat)
    case atStart => exact ⟨0, [], by omega, rfl, rfl, HW5⟩
    case round =>
      obtain ⟨k, ys, hk, rfl, HK, HL⟩ := hrel
      by_cases hlt : (k : Int) < 256 + y
      · go_wp2_with fail
        refine (draw_ins _ _ _ _ _ HL.out.cur).mono ?_
        rintro e w6 ⟨op, ia, ib, ic, im, rfl, hc6, ht6⟩
        have HL6 : Hid _ := HL.out.turn ht6 hc6
        clear hc6 ht6 HL
        go_wp2_with fail
        refine (spec_enc_any op ia ib ic im _).mono ?_
        rintro e w7 ⟨z, q, rfl, hz0', hz1', hb7⟩
        have HL7 : Hid _ := HL6.out.hop hb7
        clear hb7 HL6
        go_wp2_with fail
        refine (draw_once _ _ _ _ _ 5 HL7.out.cur (by omega) (by omega)).mono ?_
        rintro e w8 ⟨q2, rfl, hc8, ht8⟩
        have HL8 : Hid _ := HL7.out.turn ht8 hc8
        clear hc8 ht8 HL7
        cases q2 with
        | false =>
            have HL4 : Hid _ := HL8.out.hop ((Below.refl _ _).alloc (Nat.le_refl _) (.cells #[.int .u32 z] 42))
            have hown := HL4.out.own
            rw [← HK.out] at hown
            have hsz : w.heap.size ≤ w8.heap.size := HL8.out.below.size
            go_wp2_with (at_builtin; (refine wpList_append_lies _ rfl _ _ 24 rfl w.heap.size 42 i0 (.int .u32 0) 1 4 Tryz.underlying24 hi hz0 hz1 hz2 rfl (by omega) _ _ _ rfl hown _ 1 1 [.int .u32 z] rfl rfl (newsWH _ _ _ (by simp)) (oneW _) (by omega) (by unfold maxLen; omega) (by omega) (by simp; omega) _ rfl ?_; intro g cap1 w9 hown1 hgrow hat hlt1))
            go_wp2
            go_roundw
            case rel =>
              refine ⟨k + 1, ys ++ [z], by omega, by go_num, ?_, ?_⟩
              · have := HK.out; show _ = _; simp; omega
              · have hN := HK.out
                subst hN
                exact HL4.out.word hz0' hz1' hown1 hgrow hat rfl
            case measure => simp [intOf]; omega
        | true =>
            go_wp2_with fail
            refine (draw_word _ _ _ _ _ HL8.out.cur).mono ?_
            rintro e wa ⟨z2, rfl, hy0', hy1', hca, hta⟩
            have HLa : Hid _ := HL8.out.turn hta hca
            clear hca hta HL8
            have HL4 : Hid _ := HLa.out.hop ((Below.refl _ _).alloc (Nat.le_refl _) (.cells #[.int .u32 z2] 42))
            have hown := HL4.out.own
            rw [← HK.out] at hown
            have hsz : w.heap.size ≤ wa.heap.size := HLa.out.below.size
            go_wp2_with (at_builtin; (refine wpList_append_lies _ rfl _ _ 24 rfl w.heap.size 42 i0 (.int .u32 0) 1 4 Tryz.underlying24 hi hz0 hz1 hz2 rfl (by omega) _ _ _ rfl hown _ 1 1 [.int .u32 z2] rfl rfl (newsWH _ _ _ (by simp)) (oneW _) (by omega) (by unfold maxLen; omega) (by omega) (by simp; omega) _ rfl ?_; intro g cap1 w9 hown1 hgrow hat hlt1))
            go_wp2
            go_roundw
            case rel =>
              refine ⟨k + 1, ys ++ [z2], by omega, by go_num, ?_, ?_⟩
              · have := HK.out; show _ = _; simp; omega
              · have hN := HK.out
                subst hN
                exact HL4.out.word hy0' hy1' hown1 hgrow hat rfl
            case measure => simp [intOf]; omega
      · have hkl : ys.length ≤ 257 := by have := HK.out; omega
        have HO : Hid _ := HL.out.own
        obtain ⟨a4, c4, rfl, -⟩ := OwnW.seg HL.out.own
        go_wp2
        go_ret
        exact ⟨_, rfl, ys, HL.out.own, HL.out.wf, hkl, HL.out.below⟩
end Go.Proofs.YtdjapcfejmhjnaaGreatDoor
