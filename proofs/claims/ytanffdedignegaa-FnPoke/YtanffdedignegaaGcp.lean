
/-
  A guest's copy, by the program: a guest of the call's own that reads as the one that came in. Conditions: registers, rows and bytes are at most 1048576 together.
-/
import Derived.Test.YtanffdedignegaaBas
import Derived.Test.YtanffdedignegaaProg
import Derived.Test.YtanffdedignegaaGst
import Derived.Test.YtanffdedignegaaBap
import Derived.Test.YtanffdedignegaaCpl
import Derived.Test.YtanffdedignegaaRgi
namespace Go.Proofs.Ytanffdedignegaa
open Go.ChangeShapes Go.WideShapes Go.ChangeAt Go.RowKit Go.Deep
set_option linter.unusedVariables false

theorem Bk.low {w w' : World} {b B : Nat} {cs : Array Value} (h : Bk w b cs) (hb : Below B w w') (hlt : b < B) : Bk w' b cs :=
  ⟨Nat.lt_of_lt_of_le h.lt hb.size, fun i v e => (World.cell?_of_block (a := ⟨b, i, none⟩) (hb.block b hlt)).trans (h.cell i v e), fun i => (World.frozen?_of_block (a := ⟨b, i, none⟩) (hb.block b hlt)).trans (h.free i)⟩
/-- What a copy tells. -/
def CopyP (X : World) (pc : Int) (rl n : Nat) (rs : List Int) (D : Nat → List Int) (e : Ending) (w' : World) : Prop :=
  ∃ ra' ma' rc' mc' m, e = .returned (gst ra' rl rc' pc ma' n mc') ∧ Below X.heap.size X w' ∧ OGst w' X.heap.size m w'.heap.size ra' ma' rs n D ∧ X.heap.size ≤ m ∧ m ≤ w'.heap.size
/-- What stands while a guest is copied. -/
structure G3 (w w' : World) (pc : Int) (ra ma : Option Addr) (rl rc n mc : Nat) (rs : List Int) (D : Nat → List Int) (b0 b1 b2 b3 b4 b5 b6 b7 b8 b9 : Bool) (x3 x4 x5 x6 x7 x8 x9 x10 : Value) : Prop where
  bel : Below w.heap.size w w'
  hsz : w.heap.size + 2 ≤ w'.heap.size
  bk : ∃ c0 c2, Bk w' w.heap.size #[c0, .int .u32 pc, c2] ∧ (b7 = false → c0 = .slice ra rl rc) ∧ (b7 = true → c0 = x5) ∧ (b9 = false → c2 = .slice ma n mc) ∧ (b9 = true → c2 = x8)
  bz : Bk w' (w.heap.size + 1) #[.slice none 0 0, .int .u32 0, .slice none 0 0]
  f0 : b0 = true → x3 = .pointer (some ⟨w.heap.size, 0, none⟩)
  f1 : b1 = true → x4 = .slice ra rl rc
  f2 : b2 = true → b1 = true ∧ ∃ g, x5 = .slice (some ⟨g, 0, none⟩) rl rl ∧ w.heap.size + 2 ≤ g ∧ Own .u32 w' g rs
  f3 : b3 = true → x6 = .pointer (some ⟨w.heap.size, 2, none⟩)
  f4 : b4 = true → x7 = .slice ma n mc
  f5 : b5 = true → b4 = true ∧ b2 = true ∧ ∃ lo hi h, x8 = .slice (some ⟨h, 0, none⟩) n n ∧ (∀ g, x5 = .slice (some ⟨g, 0, none⟩) rl rl → g < lo) ∧ w.heap.size + 2 ≤ lo ∧ lo ≤ hi ∧ hi ≤ w'.heap.size ∧ BRows w' lo hi (some ⟨h, 0, none⟩) n D
  f6 : b6 = true → x9 = .pointer (some ⟨w.heap.size, 0, none⟩)
  f7 : b7 = true → b2 = true
  f8 : b8 = true → x10 = .pointer (some ⟨w.heap.size, 2, none⟩)
  f9 : b9 = true → b5 = true
theorem G3.below {w w' w'' : World} {pc : Int} {ra ma : Option Addr} {rl rc n mc : Nat} {rs : List Int} {D : Nat → List Int} {b0 b1 b2 b3 b4 b5 b6 b7 b8 b9 : Bool} {x3 x4 x5 x6 x7 x8 x9 x10 : Value} (h : G3 w w' pc ra ma rl rc n mc rs D b0 b1 b2 b3 b4 b5 b6 b7 b8 b9 x3 x4 x5 x6 x7 x8 x9 x10) (hb : Below w'.heap.size w' w'') : G3 w w'' pc ra ma rl rc n mc rs D b0 b1 b2 b3 b4 b5 b6 b7 b8 b9 x3 x4 x5 x6 x7 x8 x9 x10 :=
  ⟨h.bel.trans (hb.mono h.bel.size), Nat.le_trans h.hsz hb.size, by obtain ⟨c0, c2, h1, h2⟩ := h.bk; exact ⟨c0, c2, h1.below hb, h2⟩, h.bz.below hb, h.f0, h.f1, fun g => by obtain ⟨e, x, h1, h2, h3⟩ := h.f2 g; exact ⟨e, x, h1, h2, h3.below hb⟩, h.f3, h.f4, fun g => by obtain ⟨e, e2, lo, hi, x, h1, h2, h3, h4, h5, h6⟩ := h.f5 g; exact ⟨e, e2, lo, hi, x, h1, h2, h3, h4, Nat.le_trans h5 hb.size, h6.below hb⟩, h.f6, h.f7, h.f8, h.f9⟩
/-- A cell of the guest's own room is set: neither registers nor rows turn. -/
theorem own_set {k : IntKind} {w : World} {g b j : Nat} {v : Value} {zs : List Int} (h : Own k w g zs) (hn : b ≠ g) : Own k (w.setCell ⟨b, j, none⟩ v) g zs :=
  ⟨by simpa using h.lt, fun i hi => by rw [World.cell?_setCell_other _ _ _ _ (by intro e; injection e with e1 e2 e3; exact hn e1)]; exact h.cell i hi, fun i => by rw [World.frozen?_setCell]; exact h.free i⟩
set_option maxRecDepth 40000 in
set_option maxHeartbeats 8000000 in
theorem impl_copied (pc : Int) (ra ma : Option Addr) (rl rc n mc : Nat) (rs : List Int) (D : Nat → List Int) (w : World) (hs : XGSeg w ra ma rs n D) (hl : rs.length = rl) (hr : rl ≤ 1048576) (hn : n ≤ 1048576) (ht : btot D n ≤ 1048576) :
    Calls Try.prog 20 #[gst ra rl rc pc ma n mc] w (CopyP w pc rl n rs D) := by
  have HB : Hid (Below w.heap.size w ((w.alloc (.cells #[.slice ra rl rc, .int .u32 pc, .slice ma n mc] 29)).alloc (.cells #[.slice none 0 0, .int .u32 0, .slice none 0 0] 29))) := ((Below.refl _ w).alloc (Nat.le_refl _) _).alloc (by simp) _
  have B0 : Hid (Bk ((w.alloc (.cells #[.slice ra rl rc, .int .u32 pc, .slice ma n mc] 29)).alloc (.cells #[.slice none 0 0, .int .u32 0, .slice none 0 0] 29)) w.heap.size #[.slice ra rl rc, .int .u32 pc, .slice ma n mc]) := (Bk.new w _ 29 w.heap.size rfl).alloc _
  have B1 : Hid (Bk ((w.alloc (.cells #[.slice ra rl rc, .int .u32 pc, .slice ma n mc] 29)).alloc (.cells #[.slice none 0 0, .int .u32 0, .slice none 0 0] 29)) (w.heap.size + 1) #[.slice none 0 0, .int .u32 0, .slice none 0 0]) := Bk.new _ _ 29 (w.heap.size + 1) (by simp)
  have HZ : Hid (w.heap.size + 2 ≤ ((w.alloc (.cells #[.slice ra rl rc, .int .u32 pc, .slice ma n mc] 29)).alloc (.cells #[.slice none 0 0, .int .u32 0, .slice none 0 0] 29)).heap.size) := by show _ ≤ _; simp
  have HCU : Hid (∀ X, Below w.heap.size w X → Calls Try.prog 35 #[.slice ra rl rc] X fun e w' => e = .returned (.slice (some ⟨X.heap.size, 0, none⟩) rl rl) ∧ Below X.heap.size X w' ∧ Own .u32 w' X.heap.size rs) := fun X hX => cp_u32s ra rl rc rs X (hs.1.below hX) hl hr
  have HCL : Hid (∀ X, Below w.heap.size w X → Calls Try.prog 36 #[.slice ma n mc] X fun e w' => e = .returned (.slice (some ⟨X.heap.size, 0, none⟩) n n) ∧ Below X.heap.size X w' ∧ BRows w' X.heap.size w'.heap.size (some ⟨X.heap.size, 0, none⟩) n D) := fun X hX => cpl_bytes ma mc n D X (hs.2.below hX) hn ht
  clear hs hl hr hn ht
  go_enter Try.func20, Try.ntmps20
  go_wp2
  refine wp_region_inv (by kernel_rfl) (by kernel_rfl) (fun AC ℓ a' w' => ∃ (x3 x4 x5 x6 x7 x8 x9 x10 : Value), a' = ((((((((AC.put (some 3) x3).put (some 4) x4).put (some 5) x5).put (some 6) x6).put (some 7) x7).put (some 8) x8).put (some 9) x9).put (some 10) x10) ∧ G3 w w' pc ra ma rl rc n mc rs D (ℓ 0) (ℓ 1) (ℓ 2) (ℓ 3) (ℓ 4) (ℓ 5) (ℓ 6) (ℓ 7) (ℓ 8) (ℓ 9) x3 x4 x5 x6 x7 x8 x9 x10) ?_ ?_ ?_ ?_
  · exact ⟨undef, undef, undef, undef, undef, undef, undef, undef, (by simp only [Act.put, List.setIfInBounds_toArray, List.set_cons_zero, List.set_cons_succ]), ⟨HB.out.drew, by simp, ⟨_, _, B0.out.below (Below.refl _ _).drew, (fun _ => rfl), (fun g => by cases g), (fun _ => rfl), (fun g => by cases g)⟩, B1.out.below (Below.refl _ _).drew, (fun g => by cases g), (fun g => by cases g), (fun g => by cases g), (fun g => by cases g), (fun g => by cases g), (fun g => by cases g), (fun g => by cases g), (fun g => by cases g), (fun g => by cases g), (fun g => by cases g)⟩⟩
  rotate_left
  · intro ℓ a' w' i o hI ho hi hL hdep K hK
    obtain ⟨x3, x4, x5, x6, x7, x8, x9, x10, rfl, hr⟩ := hI
    have hi7 : i < 10 := hi
    have hcs : i = 0 ∨ i = 1 ∨ i = 2 ∨ i = 3 ∨ i = 4 ∨ i = 5 ∨ i = 6 ∨ i = 7 ∨ i = 8 ∨ i = 9 := by omega
    clear hi hi7
    rcases hcs with rfl | rfl | rfl | rfl | rfl | rfl | rfl | rfl | rfl | rfl
    · obtain rfl := Option.some.inj ho
      clear hdep ho
      rw [if_pos (by rfl)]
      try simp only [Act.put, List.setIfInBounds_toArray, List.set_cons_zero, List.set_cons_succ]
      go_simp
      exact hK.out _ _ (fun j => if j = 0 then true else ℓ j) ⟨.pointer (some ⟨w.heap.size, 0, none⟩), x4, x5, x6, x7, x8, x9, x10, (by simp only [Act.put, List.setIfInBounds_toArray, List.set_cons_zero, List.set_cons_succ]), ⟨hr.bel, hr.hsz, hr.bk, hr.bz, (fun _ => rfl), hr.f1, hr.f2, hr.f3, hr.f4, hr.f5, hr.f6, hr.f7, hr.f8, hr.f9⟩⟩ (if_pos rfl) (fun j hj => if_neg hj)
    · obtain rfl := Option.some.inj ho
      have g0 : ℓ 0 = true := hdep { on := 0, ground := Ground.data } (by simp) rfl
      clear hdep ho
      obtain rfl := hr.f0 g0
      have hl7 : ℓ 7 = false := by
        cases h7 : ℓ 7
        · rfl
        · have := (hr.f2 (hr.f7 h7)).1; rw [this] at hL; cases hL
      revert hK
      obtain ⟨c0, c2, hk, h1, h2, h3, h4⟩ := hr.bk
      obtain rfl := h1 hl7
      intro hK
      have q0 := hk.cell 0 _ rfl
      rw [if_pos (by rfl)]
      try simp only [Act.put, List.setIfInBounds_toArray, List.set_cons_zero, List.set_cons_succ]
      go_simp
      exact hK.out _ _ (fun j => if j = 1 then true else ℓ j) ⟨.pointer (some ⟨w.heap.size, 0, none⟩), .slice ra rl rc, x5, x6, x7, x8, x9, x10, (by simp only [Act.put, List.setIfInBounds_toArray, List.set_cons_zero, List.set_cons_succ]), ⟨hr.bel, hr.hsz, hr.bk, hr.bz, hr.f0, (fun _ => rfl), (fun h => ⟨rfl, (hr.f2 h).2⟩), hr.f3, hr.f4, hr.f5, hr.f6, hr.f7, hr.f8, hr.f9⟩⟩ (if_pos rfl) (fun j hj => if_neg hj)
    · obtain rfl := Option.some.inj ho
      have g1 : ℓ 1 = true := hdep { on := 1, ground := Ground.data } (by simp) rfl
      clear hdep ho
      obtain rfl := hr.f1 g1
      have hl7 : ℓ 7 = false := by
        cases h7 : ℓ 7
        · rfl
        · have := hr.f7 h7; rw [this] at hL; cases hL
      have hl5 : ℓ 5 = false := by
        cases h7 : ℓ 5
        · rfl
        · have := (hr.f5 h7).2.1; rw [this] at hL; cases hL
      have hl9 : ℓ 9 = false := by
        cases h7 : ℓ 9
        · rfl
        · have := (hr.f5 (hr.f9 h7)).2.1; rw [this] at hL; cases hL
      rw [if_pos (by rfl)]
      try simp only [Act.put, List.setIfInBounds_toArray, List.set_cons_zero, List.set_cons_succ]
      go_simp
      refine Calls.mono (HCU.out _ hr.bel) ?_
      rintro e w9 ⟨rfl, hb9, ho9⟩
      have hr9 := hr.below hb9
      exact hK.out _ _ (fun j => if j = 2 then true else ℓ j) ⟨x3, .slice ra rl rc, .slice (some ⟨w'.heap.size, 0, none⟩) rl rl, x6, x7, x8, x9, x10, (by simp only [Act.put, List.setIfInBounds_toArray, List.set_cons_zero, List.set_cons_succ]), ⟨hr9.bel, hr9.hsz, (by obtain ⟨c0, c2, hk, h1, h2, h3, h4⟩ := hr9.bk; exact ⟨c0, c2, hk, h1, (fun h => by rw [hl7] at h; cases h), h3, h4⟩), hr9.bz, hr9.f0, hr9.f1, (fun _ => ⟨g1, _, rfl, hr.hsz, ho9⟩), hr9.f3, hr9.f4, (fun h => by rw [hl5] at h; cases h), hr9.f6, (fun h => by rw [hl7] at h; cases h), hr9.f8, (fun h => by rw [hl9] at h; cases h)⟩⟩ (if_pos rfl) (fun j hj => if_neg hj)
    · obtain rfl := Option.some.inj ho
      clear hdep ho
      rw [if_pos (by rfl)]
      try simp only [Act.put, List.setIfInBounds_toArray, List.set_cons_zero, List.set_cons_succ]
      go_simp
      exact hK.out _ _ (fun j => if j = 3 then true else ℓ j) ⟨x3, x4, x5, .pointer (some ⟨w.heap.size, 2, none⟩), x7, x8, x9, x10, (by simp only [Act.put, List.setIfInBounds_toArray, List.set_cons_zero, List.set_cons_succ]), ⟨hr.bel, hr.hsz, hr.bk, hr.bz, hr.f0, hr.f1, hr.f2, (fun _ => rfl), hr.f4, hr.f5, hr.f6, hr.f7, hr.f8, hr.f9⟩⟩ (if_pos rfl) (fun j hj => if_neg hj)
    · obtain rfl := Option.some.inj ho
      have g3 : ℓ 3 = true := hdep { on := 3, ground := Ground.data } (by simp) rfl
      clear hdep ho
      obtain rfl := hr.f3 g3
      have hl9 : ℓ 9 = false := by
        cases h7 : ℓ 9
        · rfl
        · have := (hr.f5 (hr.f9 h7)).1; rw [this] at hL; cases hL
      revert hK
      obtain ⟨c0, c2, hk, h1, h2, h3, h4⟩ := hr.bk
      obtain rfl := h3 hl9
      intro hK
      have q2 := hk.cell 2 _ rfl
      rw [if_pos (by rfl)]
      try simp only [Act.put, List.setIfInBounds_toArray, List.set_cons_zero, List.set_cons_succ]
      go_simp
      exact hK.out _ _ (fun j => if j = 4 then true else ℓ j) ⟨x3, x4, x5, .pointer (some ⟨w.heap.size, 2, none⟩), .slice ma n mc, x8, x9, x10, (by simp only [Act.put, List.setIfInBounds_toArray, List.set_cons_zero, List.set_cons_succ]), ⟨hr.bel, hr.hsz, hr.bk, hr.bz, hr.f0, hr.f1, hr.f2, hr.f3, (fun _ => rfl), (fun h => ⟨rfl, (hr.f5 h).2⟩), hr.f6, hr.f7, hr.f8, hr.f9⟩⟩ (if_pos rfl) (fun j hj => if_neg hj)
    · obtain rfl := Option.some.inj ho
      have g4 : ℓ 4 = true := hdep { on := 4, ground := Ground.data } (by simp) rfl
      have g2 : ℓ 2 = true := hdep { on := 2, ground := Ground.chain } (by simp) rfl
      clear hdep ho
      obtain rfl := hr.f4 g4
      have hl9 : ℓ 9 = false := by
        cases h7 : ℓ 9
        · rfl
        · have := hr.f9 h7; rw [this] at hL; cases hL
      rw [if_pos (by rfl)]
      try simp only [Act.put, List.setIfInBounds_toArray, List.set_cons_zero, List.set_cons_succ]
      go_simp
      refine Calls.mono (HCL.out _ hr.bel) ?_
      rintro e w9 ⟨rfl, hb9, ho9⟩
      have hr9 := hr.below hb9
      have hlg : ∀ g, x5 = .slice (some ⟨g, 0, none⟩) rl rl → g < w'.heap.size := fun g e => by
        obtain ⟨_, g', e', _, ho⟩ := hr.f2 g2
        rw [e] at e'
        injection e' with e'
        injection e' with e'
        injection e' with e'
        rw [e']
        exact ho.lt
      exact hK.out _ _ (fun j => if j = 5 then true else ℓ j) ⟨x3, x4, x5, x6, .slice ma n mc, .slice (some ⟨w'.heap.size, 0, none⟩) n n, x9, x10, (by simp only [Act.put, List.setIfInBounds_toArray, List.set_cons_zero, List.set_cons_succ]), ⟨hr9.bel, hr9.hsz, (by obtain ⟨c0, c2, hk, h1, h2, h3, h4⟩ := hr9.bk; exact ⟨c0, c2, hk, h1, h2, h3, (fun h => by rw [hl9] at h; cases h)⟩), hr9.bz, hr9.f0, hr9.f1, hr9.f2, hr9.f3, hr9.f4, (fun _ => ⟨g4, g2, _, _, _, rfl, hlg, hr.hsz, hb9.size, Nat.le_refl _, ho9⟩), hr9.f6, hr9.f7, hr9.f8, (fun h => by rw [hl9] at h; cases h)⟩⟩ (if_pos rfl) (fun j hj => if_neg hj)
    · obtain rfl := Option.some.inj ho
      clear hdep ho
      rw [if_pos (by rfl)]
      try simp only [Act.put, List.setIfInBounds_toArray, List.set_cons_zero, List.set_cons_succ]
      go_simp
      exact hK.out _ _ (fun j => if j = 6 then true else ℓ j) ⟨x3, x4, x5, x6, x7, x8, .pointer (some ⟨w.heap.size, 0, none⟩), x10, (by simp only [Act.put, List.setIfInBounds_toArray, List.set_cons_zero, List.set_cons_succ]), ⟨hr.bel, hr.hsz, hr.bk, hr.bz, hr.f0, hr.f1, hr.f2, hr.f3, hr.f4, hr.f5, (fun _ => rfl), hr.f7, hr.f8, hr.f9⟩⟩ (if_pos rfl) (fun j hj => if_neg hj)
    · obtain rfl := Option.some.inj ho
      have g2 : ℓ 2 = true := hdep { on := 2, ground := Ground.data } (by simp) rfl
      have g6 : ℓ 6 = true := hdep { on := 6, ground := Ground.data } (by simp) rfl
      clear hdep ho
      obtain rfl := hr.f6 g6
      revert hK
      obtain ⟨c0, c2, hk, h1, h2, h3, h4⟩ := hr.bk
      have hx5 : ∃ a1 l1 k1, x5 = .slice a1 l1 k1 := by
        obtain ⟨_, g, e, _⟩ := hr.f2 g2; exact ⟨_, _, _, e⟩
      obtain ⟨a1, l1, k1, hx5⟩ := hx5
      subst hx5
      intro hK
      have q0 := hk.cell 0 _ rfl
      have z0 := hk.free 0
      rw [if_pos (by rfl)]
      try simp only [Act.put, List.setIfInBounds_toArray, List.set_cons_zero, List.set_cons_succ]
      go_simp
      have hbt : Betw w.heap.size (w.heap.size + 1) w' (w'.setCell ⟨w.heap.size, 0, none⟩ (.slice a1 l1 k1)) := (Betw.refl _ _ _).setCell (p := ⟨w.heap.size, 0, none⟩) (Nat.le_refl _) (Nat.lt_succ_self _) _
      have hbel : Below w.heap.size w (w'.setCell ⟨w.heap.size, 0, none⟩ (.slice a1 l1 k1)) := hr.bel.setCell (p := ⟨w.heap.size, 0, none⟩) (Nat.le_refl _) _
      exact hK.out _ _ (fun j => if j = 7 then true else ℓ j) ⟨x3, x4, .slice a1 l1 k1, x6, x7, x8, .pointer (some ⟨w.heap.size, 0, none⟩), x10, (by simp only [Act.put, List.setIfInBounds_toArray, List.set_cons_zero, List.set_cons_succ]), ⟨hbel, (by simpa using hr.hsz), ⟨_, c2, hk.set 0 _ (by simp) rfl, (fun h => by cases h), (fun _ => rfl), h3, h4⟩, (hr.bz.other _ _ _ (by omega)), hr.f0, hr.f1, (fun h => by obtain ⟨e0, g, e, h1, h2⟩ := hr.f2 h; exact ⟨e0, g, e, h1, own_set h2 (by omega)⟩), hr.f3, hr.f4, (fun h => by obtain ⟨e0, e1, lo, hi, x, e, h1, h2, h3, h4, h5⟩ := hr.f5 h; exact ⟨e0, e1, lo, hi, x, e, h1, h2, h3, by simpa using h4, h5.betw hbt (.inr (by omega))⟩), hr.f6, (fun _ => g2), hr.f8, hr.f9⟩⟩ (if_pos rfl) (fun j hj => if_neg hj)
    · obtain rfl := Option.some.inj ho
      clear hdep ho
      rw [if_pos (by rfl)]
      try simp only [Act.put, List.setIfInBounds_toArray, List.set_cons_zero, List.set_cons_succ]
      go_simp
      exact hK.out _ _ (fun j => if j = 8 then true else ℓ j) ⟨x3, x4, x5, x6, x7, x8, x9, .pointer (some ⟨w.heap.size, 2, none⟩), (by simp only [Act.put, List.setIfInBounds_toArray, List.set_cons_zero, List.set_cons_succ]), ⟨hr.bel, hr.hsz, hr.bk, hr.bz, hr.f0, hr.f1, hr.f2, hr.f3, hr.f4, hr.f5, hr.f6, hr.f7, (fun _ => rfl), hr.f9⟩⟩ (if_pos rfl) (fun j hj => if_neg hj)
    · obtain rfl := Option.some.inj ho
      have g5 : ℓ 5 = true := hdep { on := 5, ground := Ground.data } (by simp) rfl
      have g8 : ℓ 8 = true := hdep { on := 8, ground := Ground.data } (by simp) rfl
      clear hdep ho
      obtain rfl := hr.f8 g8
      revert hK
      obtain ⟨c0, c2, hk, h1, h2, h3, h4⟩ := hr.bk
      have hx5 : ∃ a1 l1 k1, x8 = .slice a1 l1 k1 := by
        obtain ⟨_, _, lo, hi, h, e, _⟩ := hr.f5 g5; exact ⟨_, _, _, e⟩
      obtain ⟨a1, l1, k1, hx5⟩ := hx5
      subst hx5
      intro hK
      have q0 := hk.cell 2 _ rfl
      have z0 := hk.free 2
      rw [if_pos (by rfl)]
      try simp only [Act.put, List.setIfInBounds_toArray, List.set_cons_zero, List.set_cons_succ]
      go_simp
      have hbt : Betw w.heap.size (w.heap.size + 1) w' (w'.setCell ⟨w.heap.size, 2, none⟩ (.slice a1 l1 k1)) := (Betw.refl _ _ _).setCell (p := ⟨w.heap.size, 2, none⟩) (Nat.le_refl _) (Nat.lt_succ_self _) _
      have hbel : Below w.heap.size w (w'.setCell ⟨w.heap.size, 2, none⟩ (.slice a1 l1 k1)) := hr.bel.setCell (p := ⟨w.heap.size, 2, none⟩) (Nat.le_refl _) _
      exact hK.out _ _ (fun j => if j = 9 then true else ℓ j) ⟨x3, x4, x5, x6, x7, .slice a1 l1 k1, x9, .pointer (some ⟨w.heap.size, 2, none⟩), (by simp only [Act.put, List.setIfInBounds_toArray, List.set_cons_zero, List.set_cons_succ]), ⟨hbel, (by simpa using hr.hsz), ⟨c0, _, hk.set 2 _ (by simp) rfl, h1, h2, (fun h => by cases h), (fun _ => rfl)⟩, (hr.bz.other _ _ _ (by omega)), hr.f0, hr.f1, (fun h => by obtain ⟨e0, g, e, h1, h2⟩ := hr.f2 h; exact ⟨e0, g, e, h1, own_set h2 (by omega)⟩), hr.f3, hr.f4, (fun h => by obtain ⟨e0, e1, lo, hi, x, e, h1, h2, h3, h4, h5⟩ := hr.f5 h; exact ⟨e0, e1, lo, hi, x, e, h1, h2, h3, by simpa using h4, h5.betw hbt (.inr (by omega))⟩), hr.f6, hr.f7, hr.f8, (fun _ => g5)⟩⟩ (if_pos rfl) (fun j hj => if_neg hj)
  · rintro a' w' ℓ ℓ' hℓ hI
    rw [← show ℓ = ℓ' from funext hℓ]
    exact hI
  intro ℓ a' wr hI hall
  obtain ⟨x3, x4, x5, x6, x7, x8, x9, x10, rfl, hr⟩ := hI
  have hall' : ∀ i, i < 10 → ℓ i = true := hall
  obtain ⟨c0, c2, hk, _, h1, _, h2⟩ := hr.bk
  obtain rfl := h1 (hall' 7 (by omega))
  obtain rfl := h2 (hall' 9 (by omega))
  obtain ⟨_, g1, rfl, hg1, ho1⟩ := hr.f2 (hall' 2 (by omega))
  obtain ⟨_, _, lo, hi, B, rfl, hlg, hlo, hlh, hhi, hrows⟩ := hr.f5 (hall' 5 (by omega))
  have hg2 := hlg _ rfl
  have hbz := hr.bz
  have HBE : Hid (Below w.heap.size w wr) := hr.bel
  have HRW : Hid (BRows wr lo hi (some ⟨B, 0, none⟩) n D) := hrows
  have HRG : Hid (Own .u32 wr g1 rs) := ho1
  have hsz := hr.hsz
  clear hr hall hall' h1 h2 hlg hrows ho1
  have G0 := hbz.set 0 (.slice (some ⟨g1, 0, none⟩) rl rl) (by simp) rfl
  have G1 := G0.set 1 (.int .u32 pc) (by simp) rfl
  have G2 := G1.set 2 (.slice (some ⟨B, 0, none⟩) n n) (by simp) rfl
  have f1 := hbz.free
  have r0 := hk.cell 0 _ rfl
  have r1 := hk.cell 1 _ rfl
  have r2 := hk.cell 2 _ rfl
  have t0 := hbz.cell 0 _ rfl
  have t1 := G0.cell 1 _ rfl
  have t2 := G1.cell 2 _ rfl
  have n0 := G2.cell 0 _ rfl
  have n1 := G2.cell 1 _ rfl
  have n2 := G2.cell 2 _ rfl
  clear hbz hk G0 G1 G2
  simp only [Act.put, List.setIfInBounds_toArray, List.set_cons_zero, List.set_cons_succ]
  go_wp2
  refine bodyPost_ret (v := gst (some ⟨g1, 0, none⟩) rl rl pc (some ⟨B, 0, none⟩) n n) (by simp [results, Try.results20, go_sem, n0, n1, n2]) rfl ⟨_, _, _, _, lo, rfl, ?_, ?_, ?_, ?_⟩
  · exact ((HBE.out.setCell (p := ⟨w.heap.size + 1, 0, none⟩) (by simp) _).setCell (p := ⟨w.heap.size + 1, 1, none⟩) (by simp) _).setCell (p := ⟨w.heap.size + 1, 2, none⟩) (by simp) _
  · have hbt := (((Betw.refl (w.heap.size + 1) (w.heap.size + 1 + 1) wr).setCell (p := ⟨w.heap.size + 1, 0, none⟩) (by simp) (by simp) (.slice (some ⟨g1, 0, none⟩) rl rl)).setCell (p := ⟨w.heap.size + 1, 1, none⟩) (by simp) (by simp) (.int .u32 pc)).setCell (p := ⟨w.heap.size + 1, 2, none⟩) (by simp) (by simp) (.slice (some ⟨B, 0, none⟩) n n)
    exact ⟨⟨g1, (ON.own HRG.out (by omega) hg2 : ON .u32 wr w.heap.size lo (some ⟨g1, 0, none⟩) rs g1).betw hbt (fun _ => .inr (by omega))⟩, (HRW.out.betw hbt (.inr (by omega))).wide (Nat.le_refl _) (by simpa using hhi)⟩
  · omega
  · simp; omega
end Go.Proofs.Ytanffdedignegaa
