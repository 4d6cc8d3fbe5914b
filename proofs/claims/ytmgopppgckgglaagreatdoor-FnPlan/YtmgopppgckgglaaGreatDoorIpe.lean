
/-
  Whether all needs are right, and whether planned slots fit, by the program. Conditions: the lists lie in memory; the numbers fit.
-/
import Derived.Test.YtmgopppgckgglaaGreatDoorBas
import Derived.Test.YtmgopppgckgglaaGreatDoorJsp
import Derived.Test.YtmgopppgckgglaaGreatDoorIsp
import Derived.Test.YtmgopppgckgglaaGreatDoorClo6
namespace Go.Proofs.YtmgopppgckgglaaGreatDoor
open Go.ChangeShapes Go.WideShapes Go.ChangeAt Go.RowKit Go.Deep Go.Joins
set_option linter.unusedVariables false

theorem is_need (x : Int) (w : World) : Calls Tryz.prog 35 #[.int .i64 x] w fun e w' => e = .returned (.bool (inr x 0 5000)) ∧ w' = w := by
  by_cases h1 : 0 ≤ x
  · by_cases h2 : x ≤ 5000
    · rw [inr_yes ⟨h1, h2⟩]
      go_enter Tryz.func35, Tryz.ntmps35
      go_wp2
      go_ret
      exact ⟨rfl, rfl⟩
    · rw [inr_no (fun g => h2 g.2)]
      go_enter Tryz.func35, Tryz.ntmps35
      go_wp2
      go_ret
      exact ⟨rfl, rfl⟩
  · rw [inr_no (fun g => h1 g.1)]
    go_enter Tryz.func35, Tryz.ntmps35
    go_wp2
    go_ret
    exact ⟨rfl, rfl⟩
set_option maxRecDepth 20000 in
theorem e_need : ∀ args (v : World), (callFunc 35 args).run Tryz.prog v = .ok (.enter 35 args) v := enters_of Tryz.func35 (by kernel_rfl) rfl
set_option maxRecDepth 20000 in
set_option maxHeartbeats 1000000 in
theorem need_every (a : Option Addr) (cap n : Nat) (zs : List Int) (q : Bool) (w : World) (hs : GSeg 1 w a n (inX zs)) (hn : n ≤ 9223372036854775807) (hq : q = true ↔ ∀ i, i < n → 0 ≤ zs.getD i 0 ∧ zs.getD i 0 ≤ 5000) :
    Calls Tryz.prog 34 #[.slice a n cap, .func (.func 35) #[] #[]] w fun e w' => e = .returned (.bool q) ∧ w' = w := by
  have HQ : Hid (q = true ↔ ∀ i, i < n → 0 ≤ zs.getD i 0 ∧ zs.getD i 0 ≤ 5000) := hq
  have HS : Hid (GSeg 1 w a n (inX zs)) := hs
  have hen := e_need
  clear hq hs
  go_enter Tryz.func34, Tryz.ntmps34
  go_wp2
  go_loopw [9] (fun i wr => ∃ m : Nat, m ≤ n ∧ i = .int .i64 m ∧ wr = w ∧ Hid (∀ j, j < m → 0 ≤ zs.getD j 0 ∧ zs.getD j 0 ≤ 5000)) (fun i _ => n - (intOf i).toNat)
  case atStart => exact ⟨0, by omega, rfl, rfl, fun i hi => absurd hi (by omega)⟩
  case round =>
    obtain ⟨m, hm, rfl, rfl, HR⟩ := hrel
    by_cases hmn : m < n
    rotate_left
    · obtain rfl : m = n := by omega
      have HT : Hid (q = true) := HQ.out.2 HR.out
      go_wp2
      go_ret
      exact ⟨ret_bool HT.out.symm, rfl⟩
    have hmn' : (m : Int) < (n : Int) := by omega
    obtain ⟨b1, o1, rfl, hbl1, p1⟩ := HS.out.at m hmn
    rw [Nat.mul_one] at p1
    have c0 := in_cell p1
    obtain ⟨z, HZ⟩ : ∃ z, Hid (zs.getD m 0 = z) := ⟨_, rfl⟩
    rw [HZ.out] at c0
    clear p1 hbl1
    go_wp2_with fail
    refine Calls.mono (is_need z _) ?_
    rintro u w1 ⟨rfl, rfl⟩
    by_cases hz : 0 ≤ z ∧ z ≤ 5000
    · rw [inr_yes hz]
      have HT : Hid (∀ j, j < m + 1 → 0 ≤ zs.getD j 0 ∧ zs.getD j 0 ≤ 5000) := fun j hj => by
        by_cases e : j = m
        · subst e; rw [HZ.out]; exact hz
        · exact HR.out j (by omega)
      go_wp2
      go_roundw
      case rel => exact ⟨m + 1, by omega, by go_num, by first | rfl | trivial, HT.out⟩
      case measure => simp [intOf]; omega
    · rw [inr_no hz]
      have HT : Hid (q = false) := not_true HQ.out (fun g => hz (by have h := g m hmn; rw [HZ.out] at h; exact h))
      go_wp2
      go_ret
      exact ⟨ret_bool HT.out.symm, rfl⟩
structure Rft (V : World) (S0 N0 K0 P1 RR E0 PM MJ Q0 : Value) (w' : World) (b0 b1 b2 b3 b4 b5 b6 b7 b8 b9 b10 b11 b12 b13 b14 b15 : Bool) (x5 x6 x7 x8 x9 x10 x11 x12 x13 x14 x15 x16 x17 x18 x19 x4 : Value) : Prop where
  gb : Below V.heap.size V w'
  f0 : b0 = true → x5 = S0
  f1 : b1 = true → x6 = N0
  f2 : b2 = true → x7 = .bool true
  f3 : b3 = true → x8 = .bool true
  f4 : b4 = true → x9 = S0
  f5 : b5 = true → x10 = S0
  f6 : b6 = true → x11 = N0
  f7 : b7 = true → x12 = K0
  f8 : b8 = true → x13 = P1
  f9 : b9 = true → x14 = RR
  f10 : b10 = true → x15 = E0
  f11 : b11 = true → x16 = PM
  f12 : b12 = true → x17 = MJ
  f13 : b13 = true → x18 = Q0
  f14 : b14 = true → x19 = Q0
  f15 : b15 = true → x4 = Q0
theorem Rft.below {V : World} {S0 N0 K0 P1 RR E0 PM MJ Q0 : Value} {w' w2 : World} {b0 b1 b2 b3 b4 b5 b6 b7 b8 b9 b10 b11 b12 b13 b14 b15 : Bool} {x5 x6 x7 x8 x9 x10 x11 x12 x13 x14 x15 x16 x17 x18 x19 x4 : Value} (h : Rft V S0 N0 K0 P1 RR E0 PM MJ Q0 w' b0 b1 b2 b3 b4 b5 b6 b7 b8 b9 b10 b11 b12 b13 b14 b15 x5 x6 x7 x8 x9 x10 x11 x12 x13 x14 x15 x16 x17 x18 x19 x4) (hb : Below w'.heap.size w' w2) : Rft V S0 N0 K0 P1 RR E0 PM MJ Q0 w2 b0 b1 b2 b3 b4 b5 b6 b7 b8 b9 b10 b11 b12 b13 b14 b15 x5 x6 x7 x8 x9 x10 x11 x12 x13 x14 x15 x16 x17 x18 x19 x4 :=
  ⟨h.gb.trans (hb.mono h.gb.size), h.f0, h.f1, h.f2, h.f3, h.f4, h.f5, h.f6, h.f7, h.f8, h.f9, h.f10, h.f11, h.f12, h.f13, h.f14, h.f15⟩
structure Rfz (V : World) (S0 : Value) (w' : World) (b0 b1 b2 b3 b4 b5 b6 b7 b8 b9 b10 b11 b12 b13 b14 b15 : Bool) (x5 x6 x7 x8 x9 x10 x11 x12 x13 x14 x15 x16 x17 x18 x19 x4 : Value) : Prop where
  gb : Below V.heap.size V w'
  f0 : b0 = true → x5 = S0
  f1 : b1 = true → x6 = .int .i64 0
  f2 : b2 = true → x7 = .bool false
  f3 : b3 = true → x8 = .bool false
  f4 : b4 = true → x9 = undef
  f5 : b5 = true → x10 = undef
  f6 : b6 = true → x11 = undef
  f7 : b7 = true → x12 = undef
  f8 : b8 = true → x13 = undef
  f9 : b9 = true → x14 = undef
  f10 : b10 = true → x15 = undef
  f11 : b11 = true → x16 = undef
  f12 : b12 = true → x17 = undef
  f13 : b13 = true → x18 = undef
  f14 : b14 = true → x19 = .bool false
  f15 : b15 = true → x4 = .bool false
theorem Rfz.below {V : World} {S0 : Value} {w' w2 : World} {b0 b1 b2 b3 b4 b5 b6 b7 b8 b9 b10 b11 b12 b13 b14 b15 : Bool} {x5 x6 x7 x8 x9 x10 x11 x12 x13 x14 x15 x16 x17 x18 x19 x4 : Value} (h : Rfz V S0 w' b0 b1 b2 b3 b4 b5 b6 b7 b8 b9 b10 b11 b12 b13 b14 b15 x5 x6 x7 x8 x9 x10 x11 x12 x13 x14 x15 x16 x17 x18 x19 x4) (hb : Below w'.heap.size w' w2) : Rfz V S0 w2 b0 b1 b2 b3 b4 b5 b6 b7 b8 b9 b10 b11 b12 b13 b14 b15 x5 x6 x7 x8 x9 x10 x11 x12 x13 x14 x15 x16 x17 x18 x19 x4 :=
  ⟨h.gb.trans (hb.mono h.gb.size), h.f0, h.f1, h.f2, h.f3, h.f4, h.f5, h.f6, h.f7, h.f8, h.f9, h.f10, h.f11, h.f12, h.f13, h.f14, h.f15⟩
set_option maxRecDepth 40000 in
set_option maxHeartbeats 16000000 in
theorem impl_fits (t : Tb) (a : Ad) (za : Option Addr) (n zc : Nat) (L : List slT) (q : Bool) (w : World) (hs : GSeg 3 w za n (slX L)) (hn : n ≤ 1048576)
    (hb : ∀ i, i < n → -4611686018427387904 ≤ (L.getD i sl0).2.1 + (L.getD i sl0).2.2 ∧ (L.getD i sl0).2.1 + (L.getD i sl0).2.2 ≤ 4611686018427387904)
    (hq : q = true ↔ (0 < n ∧ (L.getD (n - 1) sl0).2.1 + (L.getD (n - 1) sl0).2.2 ≤ t.maj)) :
    Calls Tryz.prog 37 #[tbV t a, .slice za n zc] w fun e w' => e = .returned (.bool q) ∧ Below w.heap.size w w' := by
  have HBD : Hid (Below w.heap.size w (w.alloc (.cells (tbA t a) 33))) := (Below.refl _ _).alloc (Nat.le_refl _) _
  have HX : Hid (TBx (w.alloc (.cells (tbA t a) 33)) w.heap.size t a) := TBx.new w t a _ rfl
  have HS : Hid (∀ X, Below w.heap.size w X → GSeg 3 X za n (slX L)) := fun X hX => hs.below hX
  have HQ : Hid (q = true ↔ (0 < n ∧ (L.getD (n - 1) sl0).2.1 + (L.getD (n - 1) sl0).2.2 ≤ t.maj)) := hq
  clear hs hq
  by_cases h0 : n = 0
  · subst h0
    have hqf : q = false := not_true HQ.out (fun h => absurd h.1 (by omega))
    subst hqf
    clear HQ HS hb
    go_enter Tryz.func37, Tryz.ntmps37
    go_wp2
    revert HBD HX
    generalize w.alloc (.cells (tbA t a) 33) = WD
    intro HBD HX
    have HW0 : Hid (Below WD.heap.size WD WD) := Below.refl _ _
    refine wp_region_inv (by kernel_rfl) (by kernel_rfl) (fun A ℓ a' w' => ∃ (x5 x6 x7 x8 x9 x10 x11 x12 x13 x14 x15 x16 x17 x18 x19 x4 : Value), a' = ((((((((((((((((A.put (some 5) x5).put (some 6) x6).put (some 7) x7).put (some 8) x8).put (some 9) x9).put (some 10) x10).put (some 11) x11).put (some 12) x12).put (some 13) x13).put (some 14) x14).put (some 15) x15).put (some 16) x16).put (some 17) x17).put (some 18) x18).put (some 19) x19).put (some 4) x4) ∧ Rfz WD (.slice za 0 zc) w' (ℓ 0) (ℓ 1) (ℓ 2) (ℓ 3) (ℓ 4) (ℓ 5) (ℓ 6) (ℓ 7) (ℓ 8) (ℓ 9) (ℓ 10) (ℓ 11) (ℓ 12) (ℓ 13) (ℓ 14) (ℓ 15) x5 x6 x7 x8 x9 x10 x11 x12 x13 x14 x15 x16 x17 x18 x19 x4) ?_ ?_ ?_ ?_
    · exact ⟨undef, undef, undef, undef, undef, undef, undef, undef, undef, undef, undef, undef, undef, undef, undef, .bool false, (by simp only [Act.put, List.setIfInBounds_toArray, List.set_cons_zero, List.set_cons_succ]), ⟨HW0.out.drew, (fun g => by cases g), (fun g => by cases g), (fun g => by cases g), (fun g => by cases g), (fun g => by cases g), (fun g => by cases g), (fun g => by cases g), (fun g => by cases g), (fun g => by cases g), (fun g => by cases g), (fun g => by cases g), (fun g => by cases g), (fun g => by cases g), (fun g => by cases g), (fun g => by cases g), (fun g => by cases g)⟩⟩
    · intro ℓ a' w' hI hall
      obtain ⟨x5, x6, x7, x8, x9, x10, x11, x12, x13, x14, x15, x16, x17, x18, x19, x4, rfl, hr⟩ := hI
      have hall' : ∀ i, i < 16 → ℓ i = true := hall
      obtain rfl := hr.f0 (hall' 0 (by decide))
      obtain rfl := hr.f1 (hall' 1 (by decide))
      obtain rfl := hr.f2 (hall' 2 (by decide))
      obtain rfl := hr.f3 (hall' 3 (by decide))
      obtain rfl := hr.f4 (hall' 4 (by decide))
      obtain rfl := hr.f5 (hall' 5 (by decide))
      obtain rfl := hr.f6 (hall' 6 (by decide))
      obtain rfl := hr.f7 (hall' 7 (by decide))
      obtain rfl := hr.f8 (hall' 8 (by decide))
      obtain rfl := hr.f9 (hall' 9 (by decide))
      obtain rfl := hr.f10 (hall' 10 (by decide))
      obtain rfl := hr.f11 (hall' 11 (by decide))
      obtain rfl := hr.f12 (hall' 12 (by decide))
      obtain rfl := hr.f13 (hall' 13 (by decide))
      obtain rfl := hr.f14 (hall' 14 (by decide))
      obtain rfl := hr.f15 (hall' 15 (by decide))
      have gb : Hid (Below WD.heap.size WD w') := hr.gb
      clear hall hall' hr
      simp only [Act.put, List.setIfInBounds_toArray, List.set_cons_zero, List.set_cons_succ]
      go_wp2
      go_ret
      exact ⟨rfl, HBD.out.trans (gb.out.mono HBD.out.size)⟩
    · intro ℓ a' w' i o hI ho hi hL hdep K hK
      obtain ⟨x5, x6, x7, x8, x9, x10, x11, x12, x13, x14, x15, x16, x17, x18, x19, x4, rfl, hr⟩ := hI
      have hi7 : i < 16 := hi
      have hcs : i = 0 ∨ i = 1 ∨ i = 2 ∨ i = 3 ∨ i = 4 ∨ i = 5 ∨ i = 6 ∨ i = 7 ∨ i = 8 ∨ i = 9 ∨ i = 10 ∨ i = 11 ∨ i = 12 ∨ i = 13 ∨ i = 14 ∨ i = 15 := by omega
      clear hi hi7
      rcases hcs with rfl | rfl | rfl | rfl | rfl | rfl | rfl | rfl | rfl | rfl | rfl | rfl | rfl | rfl | rfl | rfl
      · obtain rfl := Option.some.inj ho
        clear hdep ho
        revert hK
        intro hK
        rw [if_pos (by rfl)]
        try simp only [Act.put, List.setIfInBounds_toArray, List.set_cons_zero, List.set_cons_succ]
        go_simp
        exact hK.out _ _ (fun j => if j = 0 then true else ℓ j) ⟨.slice za 0 zc, x6, x7, x8, x9, x10, x11, x12, x13, x14, x15, x16, x17, x18, x19, x4, (by simp only [Act.put, List.setIfInBounds_toArray, List.set_cons_zero, List.set_cons_succ]), ⟨hr.gb, (fun _ => rfl), hr.f1, hr.f2, hr.f3, hr.f4, hr.f5, hr.f6, hr.f7, hr.f8, hr.f9, hr.f10, hr.f11, hr.f12, hr.f13, hr.f14, hr.f15⟩⟩ (if_pos rfl) (fun j hj => if_neg hj)
      · obtain rfl := Option.some.inj ho
        have g0 : ℓ 0 = true := hdep { on := 0, ground := Ground.data } (by simp) rfl
        clear hdep ho
        revert hK
        obtain rfl := hr.f0 g0
        intro hK
        rw [if_pos (by rfl)]
        try simp only [Act.put, List.setIfInBounds_toArray, List.set_cons_zero, List.set_cons_succ]
        go_simp
        exact hK.out _ _ (fun j => if j = 1 then true else ℓ j) ⟨.slice za 0 zc, .int .i64 0, x7, x8, x9, x10, x11, x12, x13, x14, x15, x16, x17, x18, x19, x4, (by simp only [Act.put, List.setIfInBounds_toArray, List.set_cons_zero, List.set_cons_succ]), ⟨hr.gb, (fun _ => rfl), (fun _ => rfl), hr.f2, hr.f3, hr.f4, hr.f5, hr.f6, hr.f7, hr.f8, hr.f9, hr.f10, hr.f11, hr.f12, hr.f13, hr.f14, hr.f15⟩⟩ (if_pos rfl) (fun j hj => if_neg hj)
      · obtain rfl := Option.some.inj ho
        have g1 : ℓ 1 = true := hdep { on := 1, ground := Ground.data } (by simp) rfl
        clear hdep ho
        revert hK
        obtain rfl := hr.f1 g1
        intro hK
        rw [if_pos (by rfl)]
        try simp only [Act.put, List.setIfInBounds_toArray, List.set_cons_zero, List.set_cons_succ]
        go_simp
        exact hK.out _ _ (fun j => if j = 2 then true else ℓ j) ⟨x5, .int .i64 0, .bool false, x8, x9, x10, x11, x12, x13, x14, x15, x16, x17, x18, x19, x4, (by simp only [Act.put, List.setIfInBounds_toArray, List.set_cons_zero, List.set_cons_succ]), ⟨hr.gb, hr.f0, (fun _ => rfl), (fun _ => rfl), hr.f3, hr.f4, hr.f5, hr.f6, hr.f7, hr.f8, hr.f9, hr.f10, hr.f11, hr.f12, hr.f13, hr.f14, hr.f15⟩⟩ (if_pos rfl) (fun j hj => if_neg hj)
      · obtain rfl := Option.some.inj ho
        have g2 : ℓ 2 = true := hdep { on := 2, ground := Ground.data } (by simp) rfl
        clear hdep ho
        revert hK
        obtain rfl := hr.f2 g2
        intro hK
        rw [if_pos (by rfl)]
        try simp only [Act.put, List.setIfInBounds_toArray, List.set_cons_zero, List.set_cons_succ]
        go_simp
        exact hK.out _ _ (fun j => if j = 3 then true else ℓ j) ⟨x5, x6, .bool false, .bool false, x9, x10, x11, x12, x13, x14, x15, x16, x17, x18, x19, x4, (by simp only [Act.put, List.setIfInBounds_toArray, List.set_cons_zero, List.set_cons_succ]), ⟨hr.gb, hr.f0, hr.f1, (fun _ => rfl), (fun _ => rfl), hr.f4, hr.f5, hr.f6, hr.f7, hr.f8, hr.f9, hr.f10, hr.f11, hr.f12, hr.f13, hr.f14, hr.f15⟩⟩ (if_pos rfl) (fun j hj => if_neg hj)
      · obtain rfl := Option.some.inj ho
        have g3 : ℓ 3 = true := hdep { on := 3, ground := Ground.guard } (by simp) rfl
        clear hdep ho
        revert hK
        obtain rfl := hr.f3 g3
        intro hK
        try simp only [Act.put, List.setIfInBounds_toArray, List.set_cons_zero, List.set_cons_succ]
        rw [if_neg (by first | exact fun h => Bool.false_ne_true h | exact fun h => Bool.false_ne_true h.symm)]
        try simp only [List.getElem_toArray, List.getElem_cons_zero, List.getElem_cons_succ, List.set_cons_zero, List.set_cons_succ]
        exact hK.out _ _ (fun j => if j = 4 then true else ℓ j) ⟨x5, x6, x7, .bool false, undef, x10, x11, x12, x13, x14, x15, x16, x17, x18, x19, x4, (by simp only [Act.put, List.setIfInBounds_toArray, List.set_cons_zero, List.set_cons_succ]), ⟨hr.gb, hr.f0, hr.f1, hr.f2, (fun _ => rfl), (fun _ => rfl), hr.f5, hr.f6, hr.f7, hr.f8, hr.f9, hr.f10, hr.f11, hr.f12, hr.f13, hr.f14, hr.f15⟩⟩ (if_pos rfl) (fun j hj => if_neg hj)
      · obtain rfl := Option.some.inj ho
        have g3 : ℓ 3 = true := hdep { on := 3, ground := Ground.guard } (by simp) rfl
        clear hdep ho
        revert hK
        obtain rfl := hr.f3 g3
        intro hK
        try simp only [Act.put, List.setIfInBounds_toArray, List.set_cons_zero, List.set_cons_succ]
        rw [if_neg (by first | exact fun h => Bool.false_ne_true h | exact fun h => Bool.false_ne_true h.symm)]
        try simp only [List.getElem_toArray, List.getElem_cons_zero, List.getElem_cons_succ, List.set_cons_zero, List.set_cons_succ]
        exact hK.out _ _ (fun j => if j = 5 then true else ℓ j) ⟨x5, x6, x7, .bool false, x9, undef, x11, x12, x13, x14, x15, x16, x17, x18, x19, x4, (by simp only [Act.put, List.setIfInBounds_toArray, List.set_cons_zero, List.set_cons_succ]), ⟨hr.gb, hr.f0, hr.f1, hr.f2, (fun _ => rfl), hr.f4, (fun _ => rfl), hr.f6, hr.f7, hr.f8, hr.f9, hr.f10, hr.f11, hr.f12, hr.f13, hr.f14, hr.f15⟩⟩ (if_pos rfl) (fun j hj => if_neg hj)
      · obtain rfl := Option.some.inj ho
        have g3 : ℓ 3 = true := hdep { on := 3, ground := Ground.guard } (by simp) rfl
        clear hdep ho
        revert hK
        obtain rfl := hr.f3 g3
        intro hK
        try simp only [Act.put, List.setIfInBounds_toArray, List.set_cons_zero, List.set_cons_succ]
        rw [if_neg (by first | exact fun h => Bool.false_ne_true h | exact fun h => Bool.false_ne_true h.symm)]
        try simp only [List.getElem_toArray, List.getElem_cons_zero, List.getElem_cons_succ, List.set_cons_zero, List.set_cons_succ]
        exact hK.out _ _ (fun j => if j = 6 then true else ℓ j) ⟨x5, x6, x7, .bool false, x9, x10, undef, x12, x13, x14, x15, x16, x17, x18, x19, x4, (by simp only [Act.put, List.setIfInBounds_toArray, List.set_cons_zero, List.set_cons_succ]), ⟨hr.gb, hr.f0, hr.f1, hr.f2, (fun _ => rfl), hr.f4, hr.f5, (fun _ => rfl), hr.f7, hr.f8, hr.f9, hr.f10, hr.f11, hr.f12, hr.f13, hr.f14, hr.f15⟩⟩ (if_pos rfl) (fun j hj => if_neg hj)
      · obtain rfl := Option.some.inj ho
        have g3 : ℓ 3 = true := hdep { on := 3, ground := Ground.guard } (by simp) rfl
        clear hdep ho
        revert hK
        obtain rfl := hr.f3 g3
        intro hK
        try simp only [Act.put, List.setIfInBounds_toArray, List.set_cons_zero, List.set_cons_succ]
        rw [if_neg (by first | exact fun h => Bool.false_ne_true h | exact fun h => Bool.false_ne_true h.symm)]
        try simp only [List.getElem_toArray, List.getElem_cons_zero, List.getElem_cons_succ, List.set_cons_zero, List.set_cons_succ]
        exact hK.out _ _ (fun j => if j = 7 then true else ℓ j) ⟨x5, x6, x7, .bool false, x9, x10, x11, undef, x13, x14, x15, x16, x17, x18, x19, x4, (by simp only [Act.put, List.setIfInBounds_toArray, List.set_cons_zero, List.set_cons_succ]), ⟨hr.gb, hr.f0, hr.f1, hr.f2, (fun _ => rfl), hr.f4, hr.f5, hr.f6, (fun _ => rfl), hr.f8, hr.f9, hr.f10, hr.f11, hr.f12, hr.f13, hr.f14, hr.f15⟩⟩ (if_pos rfl) (fun j hj => if_neg hj)
      · obtain rfl := Option.some.inj ho
        have g3 : ℓ 3 = true := hdep { on := 3, ground := Ground.guard } (by simp) rfl
        clear hdep ho
        revert hK
        obtain rfl := hr.f3 g3
        intro hK
        try simp only [Act.put, List.setIfInBounds_toArray, List.set_cons_zero, List.set_cons_succ]
        rw [if_neg (by first | exact fun h => Bool.false_ne_true h | exact fun h => Bool.false_ne_true h.symm)]
        try simp only [List.getElem_toArray, List.getElem_cons_zero, List.getElem_cons_succ, List.set_cons_zero, List.set_cons_succ]
        exact hK.out _ _ (fun j => if j = 8 then true else ℓ j) ⟨x5, x6, x7, .bool false, x9, x10, x11, x12, undef, x14, x15, x16, x17, x18, x19, x4, (by simp only [Act.put, List.setIfInBounds_toArray, List.set_cons_zero, List.set_cons_succ]), ⟨hr.gb, hr.f0, hr.f1, hr.f2, (fun _ => rfl), hr.f4, hr.f5, hr.f6, hr.f7, (fun _ => rfl), hr.f9, hr.f10, hr.f11, hr.f12, hr.f13, hr.f14, hr.f15⟩⟩ (if_pos rfl) (fun j hj => if_neg hj)
      · obtain rfl := Option.some.inj ho
        have g3 : ℓ 3 = true := hdep { on := 3, ground := Ground.guard } (by simp) rfl
        clear hdep ho
        revert hK
        obtain rfl := hr.f3 g3
        intro hK
        try simp only [Act.put, List.setIfInBounds_toArray, List.set_cons_zero, List.set_cons_succ]
        rw [if_neg (by first | exact fun h => Bool.false_ne_true h | exact fun h => Bool.false_ne_true h.symm)]
        try simp only [List.getElem_toArray, List.getElem_cons_zero, List.getElem_cons_succ, List.set_cons_zero, List.set_cons_succ]
        exact hK.out _ _ (fun j => if j = 9 then true else ℓ j) ⟨x5, x6, x7, .bool false, x9, x10, x11, x12, x13, undef, x15, x16, x17, x18, x19, x4, (by simp only [Act.put, List.setIfInBounds_toArray, List.set_cons_zero, List.set_cons_succ]), ⟨hr.gb, hr.f0, hr.f1, hr.f2, (fun _ => rfl), hr.f4, hr.f5, hr.f6, hr.f7, hr.f8, (fun _ => rfl), hr.f10, hr.f11, hr.f12, hr.f13, hr.f14, hr.f15⟩⟩ (if_pos rfl) (fun j hj => if_neg hj)
      · obtain rfl := Option.some.inj ho
        have g3 : ℓ 3 = true := hdep { on := 3, ground := Ground.guard } (by simp) rfl
        clear hdep ho
        revert hK
        obtain rfl := hr.f3 g3
        intro hK
        try simp only [Act.put, List.setIfInBounds_toArray, List.set_cons_zero, List.set_cons_succ]
        rw [if_neg (by first | exact fun h => Bool.false_ne_true h | exact fun h => Bool.false_ne_true h.symm)]
        try simp only [List.getElem_toArray, List.getElem_cons_zero, List.getElem_cons_succ, List.set_cons_zero, List.set_cons_succ]
        exact hK.out _ _ (fun j => if j = 10 then true else ℓ j) ⟨x5, x6, x7, .bool false, x9, x10, x11, x12, x13, x14, undef, x16, x17, x18, x19, x4, (by simp only [Act.put, List.setIfInBounds_toArray, List.set_cons_zero, List.set_cons_succ]), ⟨hr.gb, hr.f0, hr.f1, hr.f2, (fun _ => rfl), hr.f4, hr.f5, hr.f6, hr.f7, hr.f8, hr.f9, (fun _ => rfl), hr.f11, hr.f12, hr.f13, hr.f14, hr.f15⟩⟩ (if_pos rfl) (fun j hj => if_neg hj)
      · obtain rfl := Option.some.inj ho
        have g3 : ℓ 3 = true := hdep { on := 3, ground := Ground.guard } (by simp) rfl
        clear hdep ho
        revert hK
        obtain rfl := hr.f3 g3
        intro hK
        try simp only [Act.put, List.setIfInBounds_toArray, List.set_cons_zero, List.set_cons_succ]
        rw [if_neg (by first | exact fun h => Bool.false_ne_true h | exact fun h => Bool.false_ne_true h.symm)]
        try simp only [List.getElem_toArray, List.getElem_cons_zero, List.getElem_cons_succ, List.set_cons_zero, List.set_cons_succ]
        exact hK.out _ _ (fun j => if j = 11 then true else ℓ j) ⟨x5, x6, x7, .bool false, x9, x10, x11, x12, x13, x14, x15, undef, x17, x18, x19, x4, (by simp only [Act.put, List.setIfInBounds_toArray, List.set_cons_zero, List.set_cons_succ]), ⟨hr.gb, hr.f0, hr.f1, hr.f2, (fun _ => rfl), hr.f4, hr.f5, hr.f6, hr.f7, hr.f8, hr.f9, hr.f10, (fun _ => rfl), hr.f12, hr.f13, hr.f14, hr.f15⟩⟩ (if_pos rfl) (fun j hj => if_neg hj)
      · obtain rfl := Option.some.inj ho
        have g3 : ℓ 3 = true := hdep { on := 3, ground := Ground.guard } (by simp) rfl
        clear hdep ho
        revert hK
        obtain rfl := hr.f3 g3
        intro hK
        try simp only [Act.put, List.setIfInBounds_toArray, List.set_cons_zero, List.set_cons_succ]
        rw [if_neg (by first | exact fun h => Bool.false_ne_true h | exact fun h => Bool.false_ne_true h.symm)]
        try simp only [List.getElem_toArray, List.getElem_cons_zero, List.getElem_cons_succ, List.set_cons_zero, List.set_cons_succ]
        exact hK.out _ _ (fun j => if j = 12 then true else ℓ j) ⟨x5, x6, x7, .bool false, x9, x10, x11, x12, x13, x14, x15, x16, undef, x18, x19, x4, (by simp only [Act.put, List.setIfInBounds_toArray, List.set_cons_zero, List.set_cons_succ]), ⟨hr.gb, hr.f0, hr.f1, hr.f2, (fun _ => rfl), hr.f4, hr.f5, hr.f6, hr.f7, hr.f8, hr.f9, hr.f10, hr.f11, (fun _ => rfl), hr.f13, hr.f14, hr.f15⟩⟩ (if_pos rfl) (fun j hj => if_neg hj)
      · obtain rfl := Option.some.inj ho
        have g3 : ℓ 3 = true := hdep { on := 3, ground := Ground.guard } (by simp) rfl
        clear hdep ho
        revert hK
        obtain rfl := hr.f3 g3
        intro hK
        try simp only [Act.put, List.setIfInBounds_toArray, List.set_cons_zero, List.set_cons_succ]
        rw [if_neg (by first | exact fun h => Bool.false_ne_true h | exact fun h => Bool.false_ne_true h.symm)]
        try simp only [List.getElem_toArray, List.getElem_cons_zero, List.getElem_cons_succ, List.set_cons_zero, List.set_cons_succ]
        exact hK.out _ _ (fun j => if j = 13 then true else ℓ j) ⟨x5, x6, x7, .bool false, x9, x10, x11, x12, x13, x14, x15, x16, x17, undef, x19, x4, (by simp only [Act.put, List.setIfInBounds_toArray, List.set_cons_zero, List.set_cons_succ]), ⟨hr.gb, hr.f0, hr.f1, hr.f2, (fun _ => rfl), hr.f4, hr.f5, hr.f6, hr.f7, hr.f8, hr.f9, hr.f10, hr.f11, hr.f12, (fun _ => rfl), hr.f14, hr.f15⟩⟩ (if_pos rfl) (fun j hj => if_neg hj)
      · obtain rfl := Option.some.inj ho
        have g3 : ℓ 3 = true := hdep { on := 3, ground := Ground.data } (by simp) rfl
        have g13 : ℓ 13 = true := hdep { on := 13, ground := Ground.data } (by simp) rfl
        clear hdep ho
        revert hK
        obtain rfl := hr.f3 g3
        obtain rfl := hr.f13 g13
        intro hK
        rw [if_pos (by rfl)]
        try simp only [Act.put, List.setIfInBounds_toArray, List.set_cons_zero, List.set_cons_succ]
        go_simp
        exact hK.out _ _ (fun j => if j = 14 then true else ℓ j) ⟨x5, x6, x7, .bool false, x9, x10, x11, x12, x13, x14, x15, x16, x17, undef, .bool false, x4, (by simp only [Act.put, List.setIfInBounds_toArray, List.set_cons_zero, List.set_cons_succ]), ⟨hr.gb, hr.f0, hr.f1, hr.f2, (fun _ => rfl), hr.f4, hr.f5, hr.f6, hr.f7, hr.f8, hr.f9, hr.f10, hr.f11, hr.f12, (fun _ => rfl), (fun _ => rfl), hr.f15⟩⟩ (if_pos rfl) (fun j hj => if_neg hj)
      · obtain rfl := Option.some.inj ho
        have g14 : ℓ 14 = true := hdep { on := 14, ground := Ground.data } (by simp) rfl
        clear hdep ho
        revert hK
        obtain rfl := hr.f14 g14
        intro hK
        rw [if_pos (by rfl)]
        try simp only [Act.put, List.setIfInBounds_toArray, List.set_cons_zero, List.set_cons_succ]
        go_simp
        exact hK.out _ _ (fun j => if j = 15 then true else ℓ j) ⟨x5, x6, x7, x8, x9, x10, x11, x12, x13, x14, x15, x16, x17, x18, .bool false, .bool false, (by simp only [Act.put, List.setIfInBounds_toArray, List.set_cons_zero, List.set_cons_succ]), ⟨hr.gb, hr.f0, hr.f1, hr.f2, hr.f3, hr.f4, hr.f5, hr.f6, hr.f7, hr.f8, hr.f9, hr.f10, hr.f11, hr.f12, hr.f13, (fun _ => rfl), (fun _ => rfl)⟩⟩ (if_pos rfl) (fun j hj => if_neg hj)
    · rintro a' w' ℓ ℓ' hℓ hI
      rw [← show ℓ = ℓ' from funext hℓ]
      exact hI
  obtain ⟨k, hnk⟩ : ∃ k, n = k + 1 := ⟨n - 1, by omega⟩
  have hbk := hb k (by omega)
  rw [show n - 1 = k by omega] at HQ
  obtain ⟨b1, o1, rfl, _, _⟩ := (HS.out w (Below.refl _ _)).at k (by omega)
  have HSK : Hid (∀ X, Below w.heap.size w X → CellsAt X b1 (o1 + k * 3) (slX L k)) := fun X hX => by
    obtain ⟨b9, o9, h9, _, p9⟩ := (HS.out X hX).at k (by omega)
    injection h9 with e
    injection e with e1 e2
    subst e1 e2
    exact p9
  obtain ⟨y, HY⟩ : ∃ y, Hid (L.getD k sl0 = y) := ⟨_, rfl⟩
  simp only [slX] at HSK
  rw [HY.out] at HSK HQ hbk
  obtain ⟨z1, z2, z3⟩ := y
  simp only at HQ hbk
  have HQ4 : Hid (∀ X, Below (w.alloc (.cells (tbA t a) 33)).heap.size (w.alloc (.cells (tbA t a) 33)) X → (X.cell? ⟨b1, o1 + k * 3, none⟩ = some (.int .i64 z1) ∧ X.cell? ⟨b1, o1 + k * 3 + 1, none⟩ = some (.int .i64 z2) ∧ X.cell? ⟨b1, o1 + k * 3 + 2, none⟩ = some (.int .i64 z3)) ∧ X.cell? ⟨w.heap.size, 14, none⟩ = some (.int .i64 t.maj)) := fun X hX =>
    ⟨sl_cells (HSK.out X (HBD.out.trans (hX.mono HBD.out.size))), (HX.out.below hX).cell 14 rfl⟩
  have HEND : Hid (∀ Y, Calls Tryz.prog 62 #[.agg #[.int .i64 z1, .int .i64 z2, .int .i64 z3]] Y fun e w' => e = .returned (.int .i64 (z2 + z3)) ∧ Below Y.heap.size Y w') := fun Y => slot_end z1 z2 z3 Y (by rw [IntKind.wrap_i64]; omega)
  have HT1 : Hid (decide (z2 + z3 ≤ t.maj) = q) := bool_is HQ.out ⟨fun h => ⟨by omega, of_decide_eq_true h⟩, fun h => decide_eq_true h.2⟩
  have HK0 : Hid (0 < n) := by show _ < _; omega
  have HWK : Hid (IntKind.i64.wrap ((n : Int) - 1) = (k : Int)) := by show _ = _; rw [IntKind.wrap_i64]; omega
  have HKB : Hid ((k : Int) < (n : Int)) := by show _ < _; omega
  clear HS HSK HQ HY hb hbk h0 hnk
  go_enter Tryz.func37, Tryz.ntmps37
  go_wp2
  revert HBD HX HQ4
  generalize w.alloc (.cells (tbA t a) 33) = WD
  intro HBD HX HQ4
  have HW0 : Hid (Below WD.heap.size WD WD) := Below.refl _ _
  refine wp_region_inv (by kernel_rfl) (by kernel_rfl) (fun A ℓ a' w' => ∃ (x5 x6 x7 x8 x9 x10 x11 x12 x13 x14 x15 x16 x17 x18 x19 x4 : Value), a' = ((((((((((((((((A.put (some 5) x5).put (some 6) x6).put (some 7) x7).put (some 8) x8).put (some 9) x9).put (some 10) x10).put (some 11) x11).put (some 12) x12).put (some 13) x13).put (some 14) x14).put (some 15) x15).put (some 16) x16).put (some 17) x17).put (some 18) x18).put (some 19) x19).put (some 4) x4) ∧ Rft WD (.slice (some ⟨b1, o1, none⟩) n zc) (.int .i64 (n : Int)) (.int .i64 (k : Int)) (.pointer (some ⟨b1, o1 + k * 3, none⟩)) (.agg #[.int .i64 z1, .int .i64 z2, .int .i64 z3]) (.int .i64 (z2 + z3)) (.pointer (some ⟨w.heap.size, 14, none⟩)) (.int .i64 t.maj) (.bool q) w' (ℓ 0) (ℓ 1) (ℓ 2) (ℓ 3) (ℓ 4) (ℓ 5) (ℓ 6) (ℓ 7) (ℓ 8) (ℓ 9) (ℓ 10) (ℓ 11) (ℓ 12) (ℓ 13) (ℓ 14) (ℓ 15) x5 x6 x7 x8 x9 x10 x11 x12 x13 x14 x15 x16 x17 x18 x19 x4) ?_ ?_ ?_ ?_
  · exact ⟨undef, undef, undef, undef, undef, undef, undef, undef, undef, undef, undef, undef, undef, undef, undef, .bool false, (by simp only [Act.put, List.setIfInBounds_toArray, List.set_cons_zero, List.set_cons_succ]), ⟨HW0.out.drew, (fun g => by cases g), (fun g => by cases g), (fun g => by cases g), (fun g => by cases g), (fun g => by cases g), (fun g => by cases g), (fun g => by cases g), (fun g => by cases g), (fun g => by cases g), (fun g => by cases g), (fun g => by cases g), (fun g => by cases g), (fun g => by cases g), (fun g => by cases g), (fun g => by cases g), (fun g => by cases g)⟩⟩
  · intro ℓ a' w' hI hall
    obtain ⟨x5, x6, x7, x8, x9, x10, x11, x12, x13, x14, x15, x16, x17, x18, x19, x4, rfl, hr⟩ := hI
    have hall' : ∀ i, i < 16 → ℓ i = true := hall
    obtain rfl := hr.f0 (hall' 0 (by decide))
    obtain rfl := hr.f1 (hall' 1 (by decide))
    obtain rfl := hr.f2 (hall' 2 (by decide))
    obtain rfl := hr.f3 (hall' 3 (by decide))
    obtain rfl := hr.f4 (hall' 4 (by decide))
    obtain rfl := hr.f5 (hall' 5 (by decide))
    obtain rfl := hr.f6 (hall' 6 (by decide))
    obtain rfl := hr.f7 (hall' 7 (by decide))
    obtain rfl := hr.f8 (hall' 8 (by decide))
    obtain rfl := hr.f9 (hall' 9 (by decide))
    obtain rfl := hr.f10 (hall' 10 (by decide))
    obtain rfl := hr.f11 (hall' 11 (by decide))
    obtain rfl := hr.f12 (hall' 12 (by decide))
    obtain rfl := hr.f13 (hall' 13 (by decide))
    obtain rfl := hr.f14 (hall' 14 (by decide))
    obtain rfl := hr.f15 (hall' 15 (by decide))
    have gb : Hid (Below WD.heap.size WD w') := hr.gb
    clear hall hall' hr
    simp only [Act.put, List.setIfInBounds_toArray, List.set_cons_zero, List.set_cons_succ]
    go_wp2
    go_ret
    exact ⟨rfl, HBD.out.trans (gb.out.mono HBD.out.size)⟩
  · intro ℓ a' w' i o hI ho hi hL hdep K hK
    obtain ⟨x5, x6, x7, x8, x9, x10, x11, x12, x13, x14, x15, x16, x17, x18, x19, x4, rfl, hr⟩ := hI
    have hi7 : i < 16 := hi
    have hcs : i = 0 ∨ i = 1 ∨ i = 2 ∨ i = 3 ∨ i = 4 ∨ i = 5 ∨ i = 6 ∨ i = 7 ∨ i = 8 ∨ i = 9 ∨ i = 10 ∨ i = 11 ∨ i = 12 ∨ i = 13 ∨ i = 14 ∨ i = 15 := by omega
    clear hi hi7
    rcases hcs with rfl | rfl | rfl | rfl | rfl | rfl | rfl | rfl | rfl | rfl | rfl | rfl | rfl | rfl | rfl | rfl
    · obtain rfl := Option.some.inj ho
      clear hdep ho
      revert hK
      intro hK
      rw [if_pos (by rfl)]
      try simp only [Act.put, List.setIfInBounds_toArray, List.set_cons_zero, List.set_cons_succ]
      go_simp
      exact hK.out _ _ (fun j => if j = 0 then true else ℓ j) ⟨.slice (some ⟨b1, o1, none⟩) n zc, x6, x7, x8, x9, x10, x11, x12, x13, x14, x15, x16, x17, x18, x19, x4, (by simp only [Act.put, List.setIfInBounds_toArray, List.set_cons_zero, List.set_cons_succ]), ⟨hr.gb, (fun _ => rfl), hr.f1, hr.f2, hr.f3, hr.f4, hr.f5, hr.f6, hr.f7, hr.f8, hr.f9, hr.f10, hr.f11, hr.f12, hr.f13, hr.f14, hr.f15⟩⟩ (if_pos rfl) (fun j hj => if_neg hj)
    · obtain rfl := Option.some.inj ho
      have g0 : ℓ 0 = true := hdep { on := 0, ground := Ground.data } (by simp) rfl
      clear hdep ho
      revert hK
      obtain rfl := hr.f0 g0
      intro hK
      rw [if_pos (by rfl)]
      try simp only [Act.put, List.setIfInBounds_toArray, List.set_cons_zero, List.set_cons_succ]
      go_simp
      exact hK.out _ _ (fun j => if j = 1 then true else ℓ j) ⟨.slice (some ⟨b1, o1, none⟩) n zc, .int .i64 (n : Int), x7, x8, x9, x10, x11, x12, x13, x14, x15, x16, x17, x18, x19, x4, (by simp only [Act.put, List.setIfInBounds_toArray, List.set_cons_zero, List.set_cons_succ]), ⟨hr.gb, (fun _ => rfl), (fun _ => rfl), hr.f2, hr.f3, hr.f4, hr.f5, hr.f6, hr.f7, hr.f8, hr.f9, hr.f10, hr.f11, hr.f12, hr.f13, hr.f14, hr.f15⟩⟩ (if_pos rfl) (fun j hj => if_neg hj)
    · obtain rfl := Option.some.inj ho
      have g1 : ℓ 1 = true := hdep { on := 1, ground := Ground.data } (by simp) rfl
      clear hdep ho
      revert hK
      obtain rfl := hr.f1 g1
      have hb1 := HK0.out
      intro hK
      rw [if_pos (by rfl)]
      try simp only [Act.put, List.setIfInBounds_toArray, List.set_cons_zero, List.set_cons_succ]
      go_simp
      exact hK.out _ _ (fun j => if j = 2 then true else ℓ j) ⟨x5, .int .i64 (n : Int), .bool true, x8, x9, x10, x11, x12, x13, x14, x15, x16, x17, x18, x19, x4, (by simp only [Act.put, List.setIfInBounds_toArray, List.set_cons_zero, List.set_cons_succ]), ⟨hr.gb, hr.f0, (fun _ => rfl), (fun _ => rfl), hr.f3, hr.f4, hr.f5, hr.f6, hr.f7, hr.f8, hr.f9, hr.f10, hr.f11, hr.f12, hr.f13, hr.f14, hr.f15⟩⟩ (if_pos rfl) (fun j hj => if_neg hj)
    · obtain rfl := Option.some.inj ho
      have g2 : ℓ 2 = true := hdep { on := 2, ground := Ground.data } (by simp) rfl
      clear hdep ho
      revert hK
      obtain rfl := hr.f2 g2
      intro hK
      rw [if_pos (by rfl)]
      try simp only [Act.put, List.setIfInBounds_toArray, List.set_cons_zero, List.set_cons_succ]
      go_simp
      exact hK.out _ _ (fun j => if j = 3 then true else ℓ j) ⟨x5, x6, .bool true, .bool true, x9, x10, x11, x12, x13, x14, x15, x16, x17, x18, x19, x4, (by simp only [Act.put, List.setIfInBounds_toArray, List.set_cons_zero, List.set_cons_succ]), ⟨hr.gb, hr.f0, hr.f1, (fun _ => rfl), (fun _ => rfl), hr.f4, hr.f5, hr.f6, hr.f7, hr.f8, hr.f9, hr.f10, hr.f11, hr.f12, hr.f13, hr.f14, hr.f15⟩⟩ (if_pos rfl) (fun j hj => if_neg hj)
    · obtain rfl := Option.some.inj ho
      have g3 : ℓ 3 = true := hdep { on := 3, ground := Ground.guard } (by simp) rfl
      clear hdep ho
      revert hK
      obtain rfl := hr.f3 g3
      intro hK
      try simp only [Act.put, List.setIfInBounds_toArray, List.set_cons_zero, List.set_cons_succ]
      rw [if_pos (by rfl)]
      try simp only [Act.put, List.setIfInBounds_toArray, List.set_cons_zero, List.set_cons_succ]
      go_simp
      exact hK.out _ _ (fun j => if j = 4 then true else ℓ j) ⟨x5, x6, x7, .bool true, .slice (some ⟨b1, o1, none⟩) n zc, x10, x11, x12, x13, x14, x15, x16, x17, x18, x19, x4, (by simp only [Act.put, List.setIfInBounds_toArray, List.set_cons_zero, List.set_cons_succ]), ⟨hr.gb, hr.f0, hr.f1, hr.f2, (fun _ => rfl), (fun _ => rfl), hr.f5, hr.f6, hr.f7, hr.f8, hr.f9, hr.f10, hr.f11, hr.f12, hr.f13, hr.f14, hr.f15⟩⟩ (if_pos rfl) (fun j hj => if_neg hj)
    · obtain rfl := Option.some.inj ho
      have g3 : ℓ 3 = true := hdep { on := 3, ground := Ground.guard } (by simp) rfl
      clear hdep ho
      revert hK
      obtain rfl := hr.f3 g3
      intro hK
      try simp only [Act.put, List.setIfInBounds_toArray, List.set_cons_zero, List.set_cons_succ]
      rw [if_pos (by rfl)]
      try simp only [Act.put, List.setIfInBounds_toArray, List.set_cons_zero, List.set_cons_succ]
      go_simp
      exact hK.out _ _ (fun j => if j = 5 then true else ℓ j) ⟨x5, x6, x7, .bool true, x9, .slice (some ⟨b1, o1, none⟩) n zc, x11, x12, x13, x14, x15, x16, x17, x18, x19, x4, (by simp only [Act.put, List.setIfInBounds_toArray, List.set_cons_zero, List.set_cons_succ]), ⟨hr.gb, hr.f0, hr.f1, hr.f2, (fun _ => rfl), hr.f4, (fun _ => rfl), hr.f6, hr.f7, hr.f8, hr.f9, hr.f10, hr.f11, hr.f12, hr.f13, hr.f14, hr.f15⟩⟩ (if_pos rfl) (fun j hj => if_neg hj)
    · obtain rfl := Option.some.inj ho
      have g5 : ℓ 5 = true := hdep { on := 5, ground := Ground.data } (by simp) rfl
      have g3 : ℓ 3 = true := hdep { on := 3, ground := Ground.guard } (by simp) rfl
      clear hdep ho
      revert hK
      obtain rfl := hr.f3 g3
      obtain rfl := hr.f5 g5
      intro hK
      try simp only [Act.put, List.setIfInBounds_toArray, List.set_cons_zero, List.set_cons_succ]
      rw [if_pos (by rfl)]
      try simp only [Act.put, List.setIfInBounds_toArray, List.set_cons_zero, List.set_cons_succ]
      go_simp
      exact hK.out _ _ (fun j => if j = 6 then true else ℓ j) ⟨x5, x6, x7, .bool true, x9, .slice (some ⟨b1, o1, none⟩) n zc, .int .i64 (n : Int), x12, x13, x14, x15, x16, x17, x18, x19, x4, (by simp only [Act.put, List.setIfInBounds_toArray, List.set_cons_zero, List.set_cons_succ]), ⟨hr.gb, hr.f0, hr.f1, hr.f2, (fun _ => rfl), hr.f4, (fun _ => rfl), (fun _ => rfl), hr.f7, hr.f8, hr.f9, hr.f10, hr.f11, hr.f12, hr.f13, hr.f14, hr.f15⟩⟩ (if_pos rfl) (fun j hj => if_neg hj)
    · obtain rfl := Option.some.inj ho
      have g6 : ℓ 6 = true := hdep { on := 6, ground := Ground.data } (by simp) rfl
      have g3 : ℓ 3 = true := hdep { on := 3, ground := Ground.guard } (by simp) rfl
      clear hdep ho
      revert hK
      obtain rfl := hr.f3 g3
      obtain rfl := hr.f6 g6
      have hwr := HWK.out
      intro hK
      try simp only [Act.put, List.setIfInBounds_toArray, List.set_cons_zero, List.set_cons_succ]
      rw [if_pos (by rfl)]
      try simp only [Act.put, List.setIfInBounds_toArray, List.set_cons_zero, List.set_cons_succ]
      go_simp
      exact hK.out _ _ (fun j => if j = 7 then true else ℓ j) ⟨x5, x6, x7, .bool true, x9, x10, .int .i64 (n : Int), .int .i64 (k : Int), x13, x14, x15, x16, x17, x18, x19, x4, (by simp only [Act.put, List.setIfInBounds_toArray, List.set_cons_zero, List.set_cons_succ]), ⟨hr.gb, hr.f0, hr.f1, hr.f2, (fun _ => rfl), hr.f4, hr.f5, (fun _ => rfl), (fun _ => rfl), hr.f8, hr.f9, hr.f10, hr.f11, hr.f12, hr.f13, hr.f14, hr.f15⟩⟩ (if_pos rfl) (fun j hj => if_neg hj)
    · obtain rfl := Option.some.inj ho
      have g4 : ℓ 4 = true := hdep { on := 4, ground := Ground.data } (by simp) rfl
      have g7 : ℓ 7 = true := hdep { on := 7, ground := Ground.data } (by simp) rfl
      have g3 : ℓ 3 = true := hdep { on := 3, ground := Ground.guard } (by simp) rfl
      clear hdep ho
      revert hK
      obtain rfl := hr.f3 g3
      obtain rfl := hr.f4 g4
      obtain rfl := hr.f7 g7
      have hb1 := HKB.out
      intro hK
      try simp only [Act.put, List.setIfInBounds_toArray, List.set_cons_zero, List.set_cons_succ]
      rw [if_pos (by rfl)]
      try simp only [Act.put, List.setIfInBounds_toArray, List.set_cons_zero, List.set_cons_succ]
      go_simp
      exact hK.out _ _ (fun j => if j = 8 then true else ℓ j) ⟨x5, x6, x7, .bool true, .slice (some ⟨b1, o1, none⟩) n zc, x10, x11, .int .i64 (k : Int), .pointer (some ⟨b1, o1 + k * 3, none⟩), x14, x15, x16, x17, x18, x19, x4, (by simp only [Act.put, List.setIfInBounds_toArray, List.set_cons_zero, List.set_cons_succ]), ⟨hr.gb, hr.f0, hr.f1, hr.f2, (fun _ => rfl), (fun _ => rfl), hr.f5, hr.f6, (fun _ => rfl), (fun _ => rfl), hr.f9, hr.f10, hr.f11, hr.f12, hr.f13, hr.f14, hr.f15⟩⟩ (if_pos rfl) (fun j hj => if_neg hj)
    · obtain rfl := Option.some.inj ho
      have g8 : ℓ 8 = true := hdep { on := 8, ground := Ground.data } (by simp) rfl
      have g3 : ℓ 3 = true := hdep { on := 3, ground := Ground.guard } (by simp) rfl
      clear hdep ho
      revert hK
      obtain rfl := hr.f3 g3
      obtain rfl := hr.f8 g8
      have q9 := (HQ4.out _ hr.gb).1
      have cc0 := q9.1
      have cc1 := q9.2.1
      have cc2 := q9.2.2
      clear q9
      intro hK
      try simp only [Act.put, List.setIfInBounds_toArray, List.set_cons_zero, List.set_cons_succ]
      rw [if_pos (by rfl)]
      try simp only [Act.put, List.setIfInBounds_toArray, List.set_cons_zero, List.set_cons_succ]
      go_simp
      exact hK.out _ _ (fun j => if j = 9 then true else ℓ j) ⟨x5, x6, x7, .bool true, x9, x10, x11, x12, .pointer (some ⟨b1, o1 + k * 3, none⟩), .agg #[.int .i64 z1, .int .i64 z2, .int .i64 z3], x15, x16, x17, x18, x19, x4, (by simp only [Act.put, List.setIfInBounds_toArray, List.set_cons_zero, List.set_cons_succ]), ⟨hr.gb, hr.f0, hr.f1, hr.f2, (fun _ => rfl), hr.f4, hr.f5, hr.f6, hr.f7, (fun _ => rfl), (fun _ => rfl), hr.f10, hr.f11, hr.f12, hr.f13, hr.f14, hr.f15⟩⟩ (if_pos rfl) (fun j hj => if_neg hj)
    · obtain rfl := Option.some.inj ho
      have g9 : ℓ 9 = true := hdep { on := 9, ground := Ground.data } (by simp) rfl
      have g3 : ℓ 3 = true := hdep { on := 3, ground := Ground.guard } (by simp) rfl
      clear hdep ho
      revert hK
      obtain rfl := hr.f3 g3
      obtain rfl := hr.f9 g9
      intro hK
      try simp only [Act.put, List.setIfInBounds_toArray, List.set_cons_zero, List.set_cons_succ]
      rw [if_pos (by rfl)]
      try simp only [Act.put, List.setIfInBounds_toArray, List.set_cons_zero, List.set_cons_succ]
      go_simp
      refine Calls.mono (HEND.out _) ?_
      rintro e w9 ⟨rfl, hb9⟩
      have hr9 := hr.below hb9
      exact hK.out _ _ (fun j => if j = 10 then true else ℓ j) ⟨x5, x6, x7, .bool true, x9, x10, x11, x12, x13, .agg #[.int .i64 z1, .int .i64 z2, .int .i64 z3], .int .i64 (z2 + z3), x16, x17, x18, x19, x4, (by simp only [Act.put, List.setIfInBounds_toArray, List.set_cons_zero, List.set_cons_succ]), ⟨hr9.gb, hr9.f0, hr9.f1, hr9.f2, (fun _ => rfl), hr9.f4, hr9.f5, hr9.f6, hr9.f7, hr9.f8, (fun _ => rfl), (fun _ => rfl), hr9.f11, hr9.f12, hr9.f13, hr9.f14, hr9.f15⟩⟩ (if_pos rfl) (fun j hj => if_neg hj)
    · obtain rfl := Option.some.inj ho
      have g3 : ℓ 3 = true := hdep { on := 3, ground := Ground.guard } (by simp) rfl
      clear hdep ho
      revert hK
      obtain rfl := hr.f3 g3
      intro hK
      try simp only [Act.put, List.setIfInBounds_toArray, List.set_cons_zero, List.set_cons_succ]
      rw [if_pos (by rfl)]
      try simp only [Act.put, List.setIfInBounds_toArray, List.set_cons_zero, List.set_cons_succ]
      go_simp
      exact hK.out _ _ (fun j => if j = 11 then true else ℓ j) ⟨x5, x6, x7, .bool true, x9, x10, x11, x12, x13, x14, x15, .pointer (some ⟨w.heap.size, 14, none⟩), x17, x18, x19, x4, (by simp only [Act.put, List.setIfInBounds_toArray, List.set_cons_zero, List.set_cons_succ]), ⟨hr.gb, hr.f0, hr.f1, hr.f2, (fun _ => rfl), hr.f4, hr.f5, hr.f6, hr.f7, hr.f8, hr.f9, hr.f10, (fun _ => rfl), hr.f12, hr.f13, hr.f14, hr.f15⟩⟩ (if_pos rfl) (fun j hj => if_neg hj)
    · obtain rfl := Option.some.inj ho
      have g11 : ℓ 11 = true := hdep { on := 11, ground := Ground.data } (by simp) rfl
      have g3 : ℓ 3 = true := hdep { on := 3, ground := Ground.guard } (by simp) rfl
      clear hdep ho
      revert hK
      obtain rfl := hr.f3 g3
      obtain rfl := hr.f11 g11
      have hcx := (HQ4.out _ hr.gb).2
      intro hK
      try simp only [Act.put, List.setIfInBounds_toArray, List.set_cons_zero, List.set_cons_succ]
      rw [if_pos (by rfl)]
      try simp only [Act.put, List.setIfInBounds_toArray, List.set_cons_zero, List.set_cons_succ]
      go_simp
      exact hK.out _ _ (fun j => if j = 12 then true else ℓ j) ⟨x5, x6, x7, .bool true, x9, x10, x11, x12, x13, x14, x15, .pointer (some ⟨w.heap.size, 14, none⟩), .int .i64 t.maj, x18, x19, x4, (by simp only [Act.put, List.setIfInBounds_toArray, List.set_cons_zero, List.set_cons_succ]), ⟨hr.gb, hr.f0, hr.f1, hr.f2, (fun _ => rfl), hr.f4, hr.f5, hr.f6, hr.f7, hr.f8, hr.f9, hr.f10, (fun _ => rfl), (fun _ => rfl), hr.f13, hr.f14, hr.f15⟩⟩ (if_pos rfl) (fun j hj => if_neg hj)
    · obtain rfl := Option.some.inj ho
      have g10 : ℓ 10 = true := hdep { on := 10, ground := Ground.data } (by simp) rfl
      have g12 : ℓ 12 = true := hdep { on := 12, ground := Ground.data } (by simp) rfl
      have g3 : ℓ 3 = true := hdep { on := 3, ground := Ground.guard } (by simp) rfl
      clear hdep ho
      revert hK
      obtain rfl := hr.f3 g3
      obtain rfl := hr.f10 g10
      obtain rfl := hr.f12 g12
      have hb1 := HT1.out
      intro hK
      try simp only [Act.put, List.setIfInBounds_toArray, List.set_cons_zero, List.set_cons_succ]
      rw [if_pos (by rfl)]
      try simp only [Act.put, List.setIfInBounds_toArray, List.set_cons_zero, List.set_cons_succ]
      go_simp
      exact hK.out _ _ (fun j => if j = 13 then true else ℓ j) ⟨x5, x6, x7, .bool true, x9, x10, x11, x12, x13, x14, .int .i64 (z2 + z3), x16, .int .i64 t.maj, .bool q, x19, x4, (by simp only [Act.put, List.setIfInBounds_toArray, List.set_cons_zero, List.set_cons_succ]), ⟨hr.gb, hr.f0, hr.f1, hr.f2, (fun _ => rfl), hr.f4, hr.f5, hr.f6, hr.f7, hr.f8, hr.f9, (fun _ => rfl), hr.f11, (fun _ => rfl), (fun _ => rfl), hr.f14, hr.f15⟩⟩ (if_pos rfl) (fun j hj => if_neg hj)
    · obtain rfl := Option.some.inj ho
      have g3 : ℓ 3 = true := hdep { on := 3, ground := Ground.data } (by simp) rfl
      have g13 : ℓ 13 = true := hdep { on := 13, ground := Ground.data } (by simp) rfl
      clear hdep ho
      revert hK
      obtain rfl := hr.f3 g3
      obtain rfl := hr.f13 g13
      intro hK
      rw [if_pos (by rfl)]
      try simp only [Act.put, List.setIfInBounds_toArray, List.set_cons_zero, List.set_cons_succ]
      go_simp
      exact hK.out _ _ (fun j => if j = 14 then true else ℓ j) ⟨x5, x6, x7, .bool true, x9, x10, x11, x12, x13, x14, x15, x16, x17, .bool q, .bool q, x4, (by simp only [Act.put, List.setIfInBounds_toArray, List.set_cons_zero, List.set_cons_succ]), ⟨hr.gb, hr.f0, hr.f1, hr.f2, (fun _ => rfl), hr.f4, hr.f5, hr.f6, hr.f7, hr.f8, hr.f9, hr.f10, hr.f11, hr.f12, (fun _ => rfl), (fun _ => rfl), hr.f15⟩⟩ (if_pos rfl) (fun j hj => if_neg hj)
    · obtain rfl := Option.some.inj ho
      have g14 : ℓ 14 = true := hdep { on := 14, ground := Ground.data } (by simp) rfl
      clear hdep ho
      revert hK
      obtain rfl := hr.f14 g14
      intro hK
      rw [if_pos (by rfl)]
      try simp only [Act.put, List.setIfInBounds_toArray, List.set_cons_zero, List.set_cons_succ]
      go_simp
      exact hK.out _ _ (fun j => if j = 15 then true else ℓ j) ⟨x5, x6, x7, x8, x9, x10, x11, x12, x13, x14, x15, x16, x17, x18, .bool q, .bool q, (by simp only [Act.put, List.setIfInBounds_toArray, List.set_cons_zero, List.set_cons_succ]), ⟨hr.gb, hr.f0, hr.f1, hr.f2, hr.f3, hr.f4, hr.f5, hr.f6, hr.f7, hr.f8, hr.f9, hr.f10, hr.f11, hr.f12, hr.f13, (fun _ => rfl), (fun _ => rfl)⟩⟩ (if_pos rfl) (fun j hj => if_neg hj)
  · rintro a' w' ℓ ℓ' hℓ hI
    rw [← show ℓ = ℓ' from funext hℓ]
    exact hI
end Go.Proofs.YtmgopppgckgglaaGreatDoor
