
/-
  The program's DevPlay: what the plain functions say, in memory of its own. Conditions: the ops read as pairs, at most 1048576 of them.
-/
import Derived.Test.YthfmggfohegpnaaRows
import Derived.Test.YthfmggfohegpnaaDdo
import Derived.Test.YthfmggfohegpnaaDcn
import Derived.Test.YthfmggfohegpnaaDvf
import Derived.Test.YthfmggfohegpnaaRgi
import Derived.Deep.Cut
import Derived.Deep.RegionHeldLaw
namespace Go.Proofs.Ythfmggfohegpnaa
open Go.ChangeShapes Go.WideShapes Go.ChangeAt Go.RowKit Go.Deep
set_option linter.unusedVariables false

theorem run_make_dsds (n : Nat) (hn : n ≤ 1048576) (w : World) : (Instr.makeSlice 41 (.int .i64 (n : Int)) (.int .i64 (n : Int))).run Try.prog w = .ok (.slice (some ⟨w.heap.size, 0, none⟩) n n) (w.alloc (.cells (madeCells #[.bool false, .int .u32 0, .int .i64 0] (n * 3)) 56)) := by
  obtain ⟨i, hi, hz, hs, hb⟩ := infoA'
  have := run_make (P := Try.prog) w 41 56 i _ Try.underlying41 hi hz .i64 .i64 n n (by omega) (Int.le_refl _) (by rw [hb]; omega) (by omega)
  rw [hs, Int.toNat_natCast] at this
  exact this
theorem TriBlk.betw {w w' : World} {B off n m lo hi : Nat} {xs : List Ac} (h : TriBlk w B off n m xs) (hb : Betw lo hi w w') (ho : B < lo ∨ hi ≤ B) : TriBlk w' B off n m xs :=
  ⟨Nat.lt_of_lt_of_le h.lt hb.size, fun j => (hb.frozen (p := ⟨B, j, none⟩) h.lt ho).trans (h.free j), fun i hi' j hj => by
    obtain ⟨u, hu⟩ := h.room i hi' j hj
    exact ⟨u, (hb.cell (p := ⟨B, _, none⟩) h.lt ho).trans hu⟩, fun i hi' => (h.done i hi').of (fun j => hb.cell (p := ⟨B, j, none⟩) h.lt ho)⟩
theorem TriBlk.below {w w' : World} {B off n m : Nat} {xs : List Ac} (h : TriBlk w B off n m xs) (hb : Below w.heap.size w w') : TriBlk w' B off n m xs := h.betw (lo := 0) (hi := 0) (Below.betw hb) (.inr (Nat.zero_le _))
theorem TriBlk.made (w : World) (n : Nat) (T : TypeId) (xs : List Ac) (B : Nat) (hB : B = w.heap.size) : TriBlk (w.alloc (.cells (madeCells #[.bool false, .int .u32 0, .int .i64 0] (n * 3)) T)) B 0 n 0 xs := by
  subst hB
  refine ⟨by simp, fun j => by simp, fun i hi j hj => ?_, fun i hi => absurd hi (by omega)⟩
  rw [Nat.zero_add]
  have h1 : i * 3 + j < n * 3 := by omega
  have hu : ∃ u, (madeCells #[Value.bool false, .int .u32 0, .int .i64 0] (n * 3))[i * 3 + j]? = some u := by
    simp only [madeCells]
    simp [h1]
  obtain ⟨u, hu⟩ := hu
  exact ⟨u, new_cell w _ T _ _ hu⟩
theorem TriBlk.ai {w : World} {B off n : Nat} {xs : List Ac} (h : TriBlk w B off n n xs) (hl : xs.length = n) (lo hi : Nat) (h1 : lo ≤ B) (h2 : B < hi) : AI w lo hi (some ⟨B, off, none⟩) xs :=
  fun _ => ⟨B, off, rfl, h1, h2, h.lt, fun i hi => h.done i (by omega), h.free⟩
/-- What the region that makes the device and the list keeps, whatever order it draws. -/
structure RDI (V : World) (n : Nat) (xs : List Ac) (l3 l4 : Bool) (bC bS : Nat) (w : World) : Prop where
  gb : Below V.heap.size V w
  k3 : l3 = true → V.heap.size ≤ bS ∧ TriBlk w bS 0 n 0 xs
  k4 : l4 = true → V.heap.size ≤ bC ∧ Row w bC 65 [.int .u32 0, .int .u32 0, .int .u32 0, .int .u32 0, .int .u32 0, .int .u32 0, .int .u32 0, .int .u32 0, .int .i64 0, .int .u32 0, .int .u32 0, .int .u32 0, .int .u32 0, .int .u32 0, .int .u32 0, .int .u32 0, .int .u32 0, .int .i64 0]
  ne : l3 = true → l4 = true → bC ≠ bS
theorem RDI.al3 {V w : World} {n : Nat} {xs : List Ac} {l3 l4 : Bool} {bC bS : Nat} (h : RDI V n xs l3 l4 bC bS w) (T : TypeId) : RDI V n xs true l4 bC w.heap.size (w.alloc (.cells (madeCells #[.bool false, .int .u32 0, .int .i64 0] (n * 3)) T)) :=
  ⟨h.gb.alloc h.gb.size _, fun _ => ⟨h.gb.size, TriBlk.made w n T xs _ rfl⟩, fun g => ⟨(h.k4 g).1, (h.k4 g).2.below ((Below.refl _ _).alloc (Nat.le_refl _) _)⟩, fun _ g => by have := (h.k4 g).2.lt; omega⟩
theorem RDI.al4 {V w : World} {n : Nat} {xs : List Ac} {l3 l4 : Bool} {bC bS : Nat} (h : RDI V n xs l3 l4 bC bS w) : RDI V n xs l3 true w.heap.size bS (w.alloc (.cells #[.int .u32 0, .int .u32 0, .int .u32 0, .int .u32 0, .int .u32 0, .int .u32 0, .int .u32 0, .int .u32 0, .int .i64 0, .int .u32 0, .int .u32 0, .int .u32 0, .int .u32 0, .int .u32 0, .int .u32 0, .int .u32 0, .int .u32 0, .int .i64 0] 65)) :=
  ⟨h.gb.alloc h.gb.size _, fun g => ⟨(h.k3 g).1, (h.k3 g).2.below ((Below.refl _ _).alloc (Nat.le_refl _) _)⟩, fun _ => ⟨h.gb.size, Row.new w _ _ _ rfl⟩, fun g _ => by have := (h.k3 g).2.lt; omega⟩
theorem dv_zero {w : World} {B : Nat} (h : Row w B 65 [.int .u32 0, .int .u32 0, .int .u32 0, .int .u32 0, .int .u32 0, .int .u32 0, .int .u32 0, .int .u32 0, .int .i64 0, .int .u32 0, .int .u32 0, .int .u32 0, .int .u32 0, .int .u32 0, .int .u32 0, .int .u32 0, .int .u32 0, .int .i64 0]) : DvM w B [] [] := ⟨_, h, rfl, (dvw_at [] [] (by simp) (by simp)).1, (dvw_at [] [] (by simp) (by simp)).2⟩
/-- A run in memory, its answers so far. -/
structure RPD (w wr : World) (bC bS n m : Nat) (ops : List Cp) : Prop where
  gb : Below w.heap.size w wr
  dv : DvM wr bC (stN ops m).1 (stN ops m).2
  du : TriBlk wr bS 0 n m (sdL ops n)
  hC : w.heap.size ≤ bC
  hS : w.heap.size ≤ bS
  ne : bC ≠ bS
set_option maxRecDepth 20000 in
set_option maxHeartbeats 2000000 in
theorem impl_play (a : Option Addr) (n c : Nat) (ops : List Cp) (w : World) (hs : PSeg w a ops) (hl : ops.length = n) (hn : n ≤ 1048576) :
    Calls Try.prog 25 #[.slice a n c] w fun e w' => ∃ a' c', e = .returned (.slice a' (plyD ops).length c') ∧ Below w.heap.size w w' ∧ AI w' w.heap.size w'.heap.size a' (plyD ops) := by
  have HS : Hid (PSeg w a ops) := hs
  have HL : Hid (ops.length = n) := hl
  have hmk := run_make_dsds n hn
  clear hs hl
  obtain ⟨q2, HQ2⟩ : ∃ q : Bool, Hid (q = false ↔ kdsOk ops) := by
    by_cases g : kdsOk ops
    · exact ⟨false, (⟨fun _ => g, fun _ => rfl⟩ : (false = false ↔ kdsOk ops))⟩
    · exact ⟨true, (⟨fun h => (by cases h), fun h => absurd h g⟩ : (true = false ↔ kdsOk ops))⟩
  have HE0 : Hid ((¬ n ≤ 1000 ∨ q2 = true) → plyD ops = []) := fun g => by
    unfold plyD
    refine if_neg fun ⟨g2, g3⟩ => ?_
    rcases g with g | g
    · exact g (by rw [← HL.out]; exact g2)
    · rw [HQ2.out.2 g3] at g; cases g
  have HE1 : Hid (n ≤ 1000 → q2 = false → plyD ops = sdL ops n) := fun g2 g3 => by
    unfold plyD
    rw [if_pos ⟨by rw [HL.out]; exact g2, HQ2.out.1 g3⟩, HL.out]
  obtain ⟨ps, HPS⟩ : ∃ p, Hid (plyD ops = p) := ⟨_, rfl⟩
  rw [HPS.out] at HE0 HE1 ⊢
  by_cases h1000 : (1000 : Int) < (n : Int)
  · have e : ps = [] := HE0.out (.inl (by omega))
    subst e
    have hb := (Below.refl w.heap.size w).alloc (Nat.le_refl _) (.cells #[] 56)
    go_enter Try.func25, Try.ntmps25
    go_wp2
    go_ret
    first
    | exact ⟨_, _, rfl, hb, fun h => absurd h (by simp)⟩
    | exact ⟨_, ⟨_, rfl⟩, hb, fun h => absurd h (by simp)⟩
  go_enter Try.func25, Try.ntmps25
  go_wp2_with fail
  refine (impl_contains a n c ops q2 _ HS.out HL.out hn HQ2).mono ?_
  rintro x w2 ⟨rfl, hb2⟩
  have HB2 : Hid (Below w.heap.size w w2) := hb2
  clear hb2
  cases q2
  rotate_left
  · have e : ps = [] := HE0.out (.inr rfl)
    subst e
    have hb := HB2.out.alloc HB2.out.size (.cells #[] 56)
    go_wp2
    go_ret
    exact ⟨_, _, rfl, hb, fun h => absurd h (by simp)⟩
  have e : ps = sdL ops n := HE1.out (by omega) (by first | rfl | trivial)
  subst e
  have HKD : Hid (kdsOk ops) := HQ2.out.1 (by first | rfl | trivial)
  clear HE0 HE1 HQ2 HPS
  go_wp2_with fail
  go_cut [3, 4] from 7 (fun s3 s4 wc => ∃ bC bS, s3 = Value.pointer (some ⟨bC, 0, none⟩) ∧ s4 = Value.slice (some ⟨bS, 0, none⟩) n n ∧ RPD w wc bC bS n 0 ops)
  case first =>
    refine wp_region_inv (by kernel_rfl) (by kernel_rfl) (fun A ℓ a' w' => ∃ (bC bS : Nat) (x15 x16 x17 x18 x3 x4 : Value), a' = ((((((A.put (some 15) x15).put (some 16) x16).put (some 17) x17).put (some 18) x18).put (some 3) x3).put (some 4) x4) ∧ RDI w2 n (sdL ops n) (ℓ 3) (ℓ 4) bC bS w' ∧ Hid (ℓ 0 = true → x15 = .agg #[.int .u32 0, .int .u32 0, .int .u32 0, .int .u32 0, .int .u32 0, .int .u32 0, .int .u32 0, .int .u32 0, .int .i64 0, .int .u32 0, .int .u32 0, .int .u32 0, .int .u32 0, .int .u32 0, .int .u32 0, .int .u32 0, .int .u32 0, .int .i64 0]) ∧ Hid (ℓ 1 = true → x16 = .slice a n c) ∧ Hid (ℓ 2 = true → x17 = .int .i64 (n : Int)) ∧ Hid (ℓ 3 = true → x18 = .slice (some ⟨bS, 0, none⟩) n n) ∧ Hid (ℓ 4 = true → x3 = .pointer (some ⟨bC, 0, none⟩)) ∧ Hid (ℓ 6 = true → ℓ 3 = true ∧ x4 = .slice (some ⟨bS, 0, none⟩) n n)) ?_ ?_ ?_ ?_
    · exact ⟨0, 0, undef, undef, undef, undef, undef, undef, (by simp only [Act.put, List.setIfInBounds_toArray, List.set_cons_zero, List.set_cons_succ]), ⟨(Below.refl _ _).drew, (fun g => by cases g), (fun g => by cases g), (fun g => by cases g)⟩, (show _ → _ from fun g => by cases g), (show _ → _ from fun g => by cases g), (show _ → _ from fun g => by cases g), (show _ → _ from fun g => by cases g), (show _ → _ from fun g => by cases g), (show _ → _ from fun g => by cases g)⟩
    · intro ℓ a' w' hI hall
      obtain ⟨bC, bS, x15, x16, x17, x18, x3, x4, rfl, hr, f0, f1, f2, f3, f4, f6⟩ := hI
      have hall' : ∀ i, i < 7 → ℓ i = true := hall
      have g0 : ℓ 0 = true := hall' 0 (by omega)
      obtain rfl := f0.out g0
      have g1 : ℓ 1 = true := hall' 1 (by omega)
      obtain rfl := f1.out g1
      have g2 : ℓ 2 = true := hall' 2 (by omega)
      obtain rfl := f2.out g2
      have g3 : ℓ 3 = true := hall' 3 (by omega)
      obtain rfl := f3.out g3
      have g4 : ℓ 4 = true := hall' 4 (by omega)
      obtain rfl := f4.out g4
      have g6 : ℓ 6 = true := hall' 6 (by omega)
      obtain rfl := (f6.out g6).2
      have h3 := hr.k3 g3
      have h4 := hr.k4 g4
      have h5 := hr.ne g3 g4
      have hF : RPD w w' bC bS n 0 ops := ⟨HB2.out.trans (hr.gb.mono HB2.out.size), dv_zero h4.2, h3.2, Nat.le_trans HB2.out.size h4.1, Nat.le_trans HB2.out.size h3.1, h5⟩
      clear hr h3 h4 h5
      simp only [Act.put, List.setIfInBounds_toArray, List.set_cons_zero, List.set_cons_succ]
      go_wp2_with fail
      go_meet
      exact ⟨_, _, rfl, rfl, hF⟩
    · intro ℓ a' w' i o hI ho hi hL hdep K hK
      obtain ⟨bC, bS, x15, x16, x17, x18, x3, x4, rfl, hr, f0, f1, f2, f3, f4, f6⟩ := hI
      have hi7 : i < 7 := hi
      have hcs : i = 0 ∨ i = 1 ∨ i = 2 ∨ i = 3 ∨ i = 4 ∨ i = 5 ∨ i = 6 := by omega
      clear hi hi7
      rcases hcs with rfl | rfl | rfl | rfl | rfl | rfl | rfl
      · obtain rfl := Option.some.inj ho
        clear hdep ho
        rw [if_pos (by rfl)]
        try simp only [Act.put, List.setIfInBounds_toArray, List.set_cons_zero, List.set_cons_succ]
        go_simp
        exact hK.out _ _ (fun j => if j = 0 then true else ℓ j) ⟨bC, bS, (.agg #[.int .u32 0, .int .u32 0, .int .u32 0, .int .u32 0, .int .u32 0, .int .u32 0, .int .u32 0, .int .u32 0, .int .i64 0, .int .u32 0, .int .u32 0, .int .u32 0, .int .u32 0, .int .u32 0, .int .u32 0, .int .u32 0, .int .u32 0, .int .i64 0]), x16, x17, x18, x3, x4, (by simp only [Act.put, List.setIfInBounds_toArray, List.set_cons_zero, List.set_cons_succ]), hr, (show _ → _ from fun _ => rfl), f1, f2, f3, f4, f6⟩ (if_pos rfl) (fun j hj => if_neg hj)
      · obtain rfl := Option.some.inj ho
        clear hdep ho
        rw [if_pos (by rfl)]
        try simp only [Act.put, List.setIfInBounds_toArray, List.set_cons_zero, List.set_cons_succ]
        go_simp
        exact hK.out _ _ (fun j => if j = 1 then true else ℓ j) ⟨bC, bS, x15, (.slice a n c), x17, x18, x3, x4, (by simp only [Act.put, List.setIfInBounds_toArray, List.set_cons_zero, List.set_cons_succ]), hr, f0, (show _ → _ from fun _ => rfl), f2, f3, f4, f6⟩ (if_pos rfl) (fun j hj => if_neg hj)
      · obtain rfl := Option.some.inj ho
        have g1 : ℓ 1 = true := hdep { on := 1, ground := Ground.data } (by simp) rfl
        clear hdep ho
        obtain rfl := f1.out g1
        rw [if_pos (by rfl)]
        try simp only [Act.put, List.setIfInBounds_toArray, List.set_cons_zero, List.set_cons_succ]
        go_simp
        exact hK.out _ _ (fun j => if j = 2 then true else ℓ j) ⟨bC, bS, x15, (.slice a n c), (.int .i64 (n : Int)), x18, x3, x4, (by simp only [Act.put, List.setIfInBounds_toArray, List.set_cons_zero, List.set_cons_succ]), hr, f0, (show _ → _ from fun _ => rfl), (show _ → _ from fun _ => rfl), f3, f4, f6⟩ (if_pos rfl) (fun j hj => if_neg hj)
      · obtain rfl := Option.some.inj ho
        have g2 : ℓ 2 = true := hdep { on := 2, ground := Ground.data } (by simp) rfl
        clear hdep ho
        obtain rfl := f2.out g2
        rw [if_pos (by rfl)]
        try simp only [Act.put, List.setIfInBounds_toArray, List.set_cons_zero, List.set_cons_succ]
        go_simp
        exact hK.out _ _ (fun j => if j = 3 then true else ℓ j) ⟨bC, w'.heap.size, x15, x16, (.int .i64 (n : Int)), (.slice (some ⟨w'.heap.size, 0, none⟩) n n), x3, x4, (by simp only [Act.put, List.setIfInBounds_toArray, List.set_cons_zero, List.set_cons_succ]), (hr.al3 56), f0, f1, (show _ → _ from fun _ => rfl), (show _ → _ from fun _ => rfl), f4, (show _ → _ from fun g => absurd ((f6.out g).1.symm.trans hL) (by decide))⟩ (if_pos rfl) (fun j hj => if_neg hj)
      · obtain rfl := Option.some.inj ho
        clear hdep ho
        rw [if_pos (by rfl)]
        try simp only [Act.put, List.setIfInBounds_toArray, List.set_cons_zero, List.set_cons_succ]
        go_simp
        exact hK.out _ _ (fun j => if j = 4 then true else ℓ j) ⟨w'.heap.size, bS, x15, x16, x17, x18, (.pointer (some ⟨w'.heap.size, 0, none⟩)), x4, (by simp only [Act.put, List.setIfInBounds_toArray, List.set_cons_zero, List.set_cons_succ]), hr.al4, f0, f1, f2, f3, (show _ → _ from fun _ => rfl), f6⟩ (if_pos rfl) (fun j hj => if_neg hj)
      · obtain rfl := Option.some.inj ho
        have g4 : ℓ 4 = true := hdep { on := 4, ground := Ground.data } (by simp) rfl
        have g0 : ℓ 0 = true := hdep { on := 0, ground := Ground.data } (by simp) rfl
        clear hdep ho
        obtain rfl := f4.out g4
        obtain rfl := f0.out g0
        rw [if_pos (by rfl)]
        try simp only [Act.put, List.setIfInBounds_toArray, List.set_cons_zero, List.set_cons_succ]
        have hrow := (hr.k4 g4).2
        refine wp_store_row (P := Try.prog) 65 (.tmp 3) (.tmp 15) rfl bC #[.int .u32 0, .int .u32 0, .int .u32 0, .int .u32 0, .int .u32 0, .int .u32 0, .int .u32 0, .int .u32 0, .int .i64 0, .int .u32 0, .int .u32 0, .int .u32 0, .int .u32 0, .int .u32 0, .int .u32 0, .int .u32 0, .int .u32 0, .int .i64 0] rfl rfl 65 #[.int .u32 0, .int .u32 0, .int .u32 0, .int .u32 0, .int .u32 0, .int .u32 0, .int .u32 0, .int .u32 0, .int .i64 0, .int .u32 0, .int .u32 0, .int .u32 0, .int .u32 0, .int .u32 0, .int .u32 0, .int .u32 0, .int .u32 0, .int .i64 0] hrow (by kernel_rfl) rfl (by simp [Value.oneCell']) ?_
        rw [setRow_self w' bC _ 65 (0, 0) hrow]
        exact hK.out _ _ (fun j => if j = 5 then true else ℓ j) ⟨bC, bS, (.agg #[.int .u32 0, .int .u32 0, .int .u32 0, .int .u32 0, .int .u32 0, .int .u32 0, .int .u32 0, .int .u32 0, .int .i64 0, .int .u32 0, .int .u32 0, .int .u32 0, .int .u32 0, .int .u32 0, .int .u32 0, .int .u32 0, .int .u32 0, .int .i64 0]), x16, x17, x18, (.pointer (some ⟨bC, 0, none⟩)), x4, (by rfl), hr, (show _ → _ from fun _ => rfl), f1, f2, f3, (show _ → _ from fun _ => rfl), f6⟩ (if_pos rfl) (fun j hj => if_neg hj)
      · obtain rfl := Option.some.inj ho
        have g3 : ℓ 3 = true := hdep { on := 3, ground := Ground.data } (by simp) rfl
        clear hdep ho
        obtain rfl := f3.out g3
        rw [if_pos (by rfl)]
        try simp only [Act.put, List.setIfInBounds_toArray, List.set_cons_zero, List.set_cons_succ]
        go_simp
        exact hK.out _ _ (fun j => if j = 6 then true else ℓ j) ⟨bC, bS, x15, x16, x17, (.slice (some ⟨bS, 0, none⟩) n n), x3, (.slice (some ⟨bS, 0, none⟩) n n), (by simp only [Act.put, List.setIfInBounds_toArray, List.set_cons_zero, List.set_cons_succ]), hr, f0, f1, f2, (show _ → _ from fun _ => rfl), f4, (show _ → _ from fun _ => ⟨g3, rfl⟩)⟩ (if_pos rfl) (fun j hj => if_neg hj)
    · intro a' w' ℓ ℓ' hℓ hI
      rw [← show ℓ = ℓ' from funext hℓ]
      exact hI
  case rest =>
  obtain ⟨bC, bS, rfl, rfl, hrp⟩ := hcut
  have HR0 : Hid (RPD w wc bC bS n 0 ops) := hrp
  clear hrp hmk HB2
  go_wp2
  go_loopw [21] (fun i wr => ∃ m : Nat, m ≤ n ∧ i = .int .i64 m ∧ Hid (RPD w wr bC bS n m ops)) (fun i _ => n - (intOf i).toNat)
  case atStart => exact ⟨0, by omega, rfl, HR0.out⟩
  case round =>
    obtain ⟨m, hm, rfl, HR⟩ := hrel
    by_cases hlt : m < n
    · have hlt' : (m : Int) < (n : Int) := by omega
      obtain ⟨b1, o1, rfl, hbl1, p1⟩ := PSeg.at (w := w) HS.out m (by have := HL.out; omega)
      replace p1 := p1.of (w' := wr) (fun i => HR.out.gb.cell (p := ⟨b1, i, none⟩) hbl1)
      obtain ⟨p, HP⟩ : ∃ p, Hid (ops.getD m cp0 = p) := ⟨_, rfl⟩
      have HKM : Hid (0 ≤ p.1 ∧ p.1 ≤ 2) := by rw [← HP.out]; exact HKD.out m (by have := HL.out; omega)
      rw [HP.out] at p1
      obtain ⟨q0, q1⟩ := p1
      obtain ⟨x1, x2⟩ := p
      simp only at q0 q1
      obtain ⟨y, HY⟩ : ∃ y, Hid ((stpD (stN ops m) (x1, x2)).2 = y) := ⟨_, rfl⟩
      have DO : Hid (Calls Try.prog 49 #[.pointer (some ⟨bC, 0, none⟩), cpv x1 x2] (wr.alloc (.cells #[.int .i64 x1, .int .u32 x2] 54)) fun e w' => e = .returned (sdv y.1 y.2.1 y.2.2) ∧ TriBlk w' bS 0 n m (sdL ops n) ∧ Below w.heap.size w w' ∧ DvM w' bC (stN ops (m + 1)).1 (stN ops (m + 1)).2) := by
        have hal : Below wr.heap.size wr (wr.alloc (.cells #[.int .i64 x1, .int .u32 x2] 54)) := (Below.refl _ _).alloc (Nat.le_refl _) _
        have hd := HR.out.du.below hal
        refine (impl_do bC (stN ops m) (x1, x2) _ (HR.out.dv.below hal) HKM.out.1 HKM.out.2).mono ?_
        rintro e w' ⟨he, hx, hb⟩
        have hne := HR.out.ne
        have hg := HR.out.gb.trans (hal.mono HR.out.gb.size)
        refine ⟨by rw [he, HY.out], hd.betw hb (by omega), hg.trans (hb.below HR.out.hC hg.size), ?_⟩
        have e2 : stN ops (m + 1) = (stpD (stN ops m) (x1, x2)).1 := by rw [← HP.out]; rfl
        rw [e2]
        exact hx
      have HYS : Hid (sdN ops m = y) := by rw [← HY.out, ← HP.out]; exact rfl
      clear hbl1 HY
      obtain ⟨y1, y2, y3⟩ := y
      go_wp2_with fail
      refine DO.out.mono ?_
      rintro u w5 ⟨rfl, hd5, hb5, hx5⟩
      obtain ⟨u1, hu1⟩ := hd5.room m hlt 0 (by omega)
      obtain ⟨u2, hu2⟩ := hd5.room m hlt 1 (by omega)
      obtain ⟨u3, hu3⟩ := hd5.room m hlt 2 (by omega)
      have hf := hd5.free
      have hd6 := hd5.put hlt y1 y2 y3 (by rw [sdL_at ops n m hlt]; exact HYS.out)
      have tb : Betw bS (bS + 1) w5 (((w5.setCell ⟨bS, 0 + m * 3, none⟩ (.bool y1)).setCell ⟨bS, 0 + m * 3 + 1, none⟩ (.int .u32 y2)).setCell ⟨bS, 0 + m * 3 + 2, none⟩ (.int .i64 y3)) := (((Betw.refl bS (bS + 1) w5).setCell (p := ⟨bS, 0 + m * 3, none⟩) (Nat.le_refl _) (Nat.lt_succ_self _) _).setCell (p := ⟨bS, 0 + m * 3 + 1, none⟩) (Nat.le_refl _) (Nat.lt_succ_self _) _).setCell (p := ⟨bS, 0 + m * 3 + 2, none⟩) (Nat.le_refl _) (Nat.lt_succ_self _) _
      have HR6 : Hid (RPD w (((w5.setCell ⟨bS, 0 + m * 3, none⟩ (.bool y1)).setCell ⟨bS, 0 + m * 3 + 1, none⟩ (.int .u32 y2)).setCell ⟨bS, 0 + m * 3 + 2, none⟩ (.int .i64 y3)) bC bS n (m + 1) ops) := ⟨hb5.trans (tb.below HR.out.hS hb5.size), hx5.betw tb (by have := HR.out.ne; omega), hd6, HR.out.hC, HR.out.hS, HR.out.ne⟩
      rw [Nat.zero_add] at hu1 hu2 hu3 HR6
      rw [Nat.add_zero] at hu1
      have hv2 : (w5.setCell ⟨bS, m * 3, none⟩ (.bool y1)).cell? ⟨bS, m * 3 + 1, none⟩ = some u2 := by rw [World.cell?_setCell_other _ _ _ _ (by simp)]; exact hu2
      have hv3 : ((w5.setCell ⟨bS, m * 3, none⟩ (.bool y1)).setCell ⟨bS, m * 3 + 1, none⟩ (.int .u32 y2)).cell? ⟨bS, m * 3 + 2, none⟩ = some u3 := by rw [World.cell?_setCell_other _ _ _ _ (by simp), World.cell?_setCell_other _ _ _ _ (by simp)]; exact hu3
      clear hd5 hb5 hx5 hd6 tb HR DO q0 q1
      go_wp2
      go_roundw
      case rel => exact ⟨m + 1, by omega, by go_num, HR6⟩
      case measure => simp [intOf]; omega
    · obtain rfl : m = n := by omega
      go_wp2
      go_ret
      have hd := HR.out.du
      refine ⟨_, _, by rw [sdL_len]; rfl, HR.out.gb, hd.ai (sdL_len _ _) _ _ HR.out.hS hd.lt⟩
end Go.Proofs.Ythfmggfohegpnaa
