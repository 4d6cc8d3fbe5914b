
/-
  The law on plans, walked: of all bytes it returns true. Conditions: the bytes are bytes; the program's table of extras holds what the program's text lays.
-/
import Derived.Test.YtmgopppgckgglaaGreatDoorBas
import Derived.Test.YtmgopppgckgglaaGreatDoorDpn
import Derived.Test.YtmgopppgckgglaaGreatDoorSpn
import Derived.Test.YtmgopppgckgglaaGreatDoorIpn
import Derived.Test.YtmgopppgckgglaaGreatDoorShr
import Derived.Test.YtmgopppgckgglaaGreatDoorGen
import Derived.Test.YtmgopppgckgglaaGreatDoorVat
namespace Go.Proofs.YtmgopppgckgglaaGreatDoor
open Go.ChangeShapes Go.WideShapes Go.ChangeAt Go.RowKit Go.Deep Go.Joins
set_option linter.unusedVariables false

theorem share_pre {t : Tb} {A : List slT} {s : slT} {x : Int} : ∀ i, i ≤ A.length → shareN { t with ss := A ++ [s] } x i = shareN { t with ss := A } x i
  | 0, _ => rfl
  | i + 1, h => by
    have ih := share_pre (t := t) (A := A) (s := s) (x := x) i (by omega)
    have e : (A ++ [s]).getD i sl0 = A.getD i sl0 := by rw [List.getD, List.getElem?_append_left (by omega), ← List.getD]
    show shareN { t with ss := A ++ [s] } x i + (if ((A ++ [s]).getD i sl0).1 = x then ((A ++ [s]).getD i sl0).2.2 - (t.pad + t.grd) else 0) = shareN { t with ss := A } x i + (if (A.getD i sl0).1 = x then (A.getD i sl0).2.2 - (t.pad + t.grd) else 0)
    rw [ih, e]
theorem plan_share {t : Tb} {zs : List Int} (p : Nat) : ∀ m, shareN { t with ss := plM t zs m } (p : Int) (plM t zs m).length = if p < m ∧ 0 < zs.getD p 0 then zs.getD p 0 else 0
  | 0 => by rw [if_neg (fun h => absurd h.1 (Nat.not_lt_zero _))]; rfl
  | m + 1 => by
    have ih := plan_share (t := t) (zs := zs) p m
    by_cases c : 0 < zs.getD m 0
    · have e1 : plM t zs (m + 1) = plM t zs m ++ [((m : Int), plAt t zs m, t.pad + t.grd + zs.getD m 0)] := if_pos c
      have eg : (plM t zs m ++ [((m : Int), plAt t zs m, t.pad + t.grd + zs.getD m 0)]).getD (plM t zs m).length sl0 = ((m : Int), plAt t zs m, t.pad + t.grd + zs.getD m 0) := by
        rw [List.getD, List.getElem?_append_right (Nat.le_refl _), Nat.sub_self]
        rfl
      rw [e1, List.length_append, List.length_singleton]
      show shareN { t with ss := plM t zs m ++ [((m : Int), plAt t zs m, t.pad + t.grd + zs.getD m 0)] } (p : Int) (plM t zs m).length + (if ((plM t zs m ++ [((m : Int), plAt t zs m, t.pad + t.grd + zs.getD m 0)]).getD (plM t zs m).length sl0).1 = (p : Int) then ((plM t zs m ++ [((m : Int), plAt t zs m, t.pad + t.grd + zs.getD m 0)]).getD (plM t zs m).length sl0).2.2 - (t.pad + t.grd) else 0) = _
      rw [share_pre _ (Nat.le_refl _), ih, eg]
      show (if p < m ∧ 0 < zs.getD p 0 then zs.getD p 0 else 0) + (if (m : Int) = (p : Int) then (t.pad + t.grd + zs.getD m 0) - (t.pad + t.grd) else 0) = _
      by_cases e : m = p
      · subst e
        rw [if_neg (fun h => absurd h.1 (Nat.lt_irrefl _)), if_pos rfl, if_pos ⟨Nat.lt_succ_self _, c⟩]
        omega
      · rw [if_neg (show ¬ (m : Int) = (p : Int) by omega)]
        by_cases h : p < m ∧ 0 < zs.getD p 0
        · rw [if_pos h, if_pos ⟨by omega, h.2⟩]; omega
        · rw [if_neg h, if_neg (fun q => h ⟨by omega, q.2⟩)]; omega
    · have e1 : plM t zs (m + 1) = plM t zs m := if_neg c
      rw [e1, ih]
      by_cases h : p < m ∧ 0 < zs.getD p 0
      · rw [if_pos h, if_pos ⟨by omega, h.2⟩]
      · rw [if_neg h, if_neg (fun q => by
          by_cases e : p = m
          · exact c (by rw [← e]; exact q.2)
          · exact h ⟨by omega, q.2⟩)]
theorem plan_need {t : Tb} {zs : List Int} (h : PlOK t zs) (p : Nat) (hp : p < zs.length) : shareN { t with ss := plM t zs zs.length } (p : Int) (plM t zs zs.length).length = zs.getD p 0 := by
  rw [plan_share]
  have hz := h.2.2.1 p hp
  by_cases c : 0 < zs.getD p 0
  · rw [if_pos ⟨hp, c⟩]
  · rw [if_neg (fun q => c q.2)]; omega
set_option maxRecDepth 40000 in
set_option maxHeartbeats 16000000 in
theorem walk_plan (a : Option Addr) (zs : List Int) (cap n : Nat) (w : World) (hs : Seg .u8 w a zs) (hb : ∀ z ∈ zs, (Lit.int .u8 z).wf = true) (hl : zs.length = n) (he : TabE w) :
    Calls Tryz.prog 3 #[.slice a n cap] w fun e w' => e = .returned (.bool true) ∧ Below w.heap.size w w' := by
  by_cases hn : n ≤ 1048576
  rotate_left
  · have HY : Hid _ := big_yes a n cap w hn
    go_enter Tryz.func3, Tryz.ntmps3
    go_wp2_with fail
    refine Calls.mono HY.out ?_
    rintro e w1 ⟨rfl, rfl⟩
    go_wp2
    go_ret
    exact ⟨rfl, Below.refl _ _⟩
  have HNO : Hid _ := big_no a n cap w hn
  have HDR : Hid _ := draw_plan w a zs cap n hs hb hl hn
  have HTE : Hid (∀ X, Below w.heap.size w X → TabE X) := fun X hX => he.below hX
  clear hs hb hl he
  go_enter Tryz.func3, Tryz.ntmps3
  go_wp2_with fail
  refine Calls.mono HNO.out ?_
  rintro e w ⟨rfl, rfl⟩
  go_wp2_with fail
  refine Calls.mono HDR.out ?_
  rintro e w1 ⟨t, ad, na, m, mc, ks, rfl, hD, hb⟩
  have HNR : Hid (RV (w1.alloc (.cells #[.int .i64 0, .int .i64 0, .int .i64 0, .int .i64 0, .int .i64 0, .int .i64 0, .int .i64 0, .int .i64 0, .int .i64 0, .int .i64 0, .int .i64 0, .int .i64 0, .int .i64 0, .int .i64 0, .int .i64 0, .slice none 0 0, .slice none 0 0, .slice none 0 0, .slice none 0 0] 33)) w1.heap.size (#[.int .i64 0, .int .i64 0, .int .i64 0, .int .i64 0, .int .i64 0, .int .i64 0, .int .i64 0, .int .i64 0, .int .i64 0, .int .i64 0, .int .i64 0, .int .i64 0, .int .i64 0, .int .i64 0, .int .i64 0, .slice none 0 0, .slice none 0 0, .slice none 0 0, .slice none 0 0])) := new_row w1 _ _ _ rfl
  have hbV : Below w1.heap.size w1 ((w1.alloc (.cells #[.int .i64 0, .int .i64 0, .int .i64 0, .int .i64 0, .int .i64 0, .int .i64 0, .int .i64 0, .int .i64 0, .int .i64 0, .int .i64 0, .int .i64 0, .int .i64 0, .int .i64 0, .int .i64 0, .int .i64 0, .slice none 0 0, .slice none 0 0, .slice none 0 0, .slice none 0 0] 33)).setRow w1.heap.size (tbA t ad)) := below_setRow ((Below.refl _ _).alloc (Nat.le_refl _) _) (Nat.le_refl _) _
  have HX : Hid (∀ X, Below ((w1.alloc (.cells #[.int .i64 0, .int .i64 0, .int .i64 0, .int .i64 0, .int .i64 0, .int .i64 0, .int .i64 0, .int .i64 0, .int .i64 0, .int .i64 0, .int .i64 0, .int .i64 0, .int .i64 0, .int .i64 0, .int .i64 0, .slice none 0 0, .slice none 0 0, .slice none 0 0, .slice none 0 0] 33)).setRow w1.heap.size (tbA t ad)).heap.size ((w1.alloc (.cells #[.int .i64 0, .int .i64 0, .int .i64 0, .int .i64 0, .int .i64 0, .int .i64 0, .int .i64 0, .int .i64 0, .int .i64 0, .int .i64 0, .int .i64 0, .int .i64 0, .int .i64 0, .int .i64 0, .int .i64 0, .slice none 0 0, .slice none 0 0, .slice none 0 0, .slice none 0 0] 33)).setRow w1.heap.size (tbA t ad)) X → X.heap[w1.heap.size]? = some (.cells (tbA t ad) 33 (0, 0))) := fun X hX => row_below (setRow_heap _ _ _ _ _ _ HNR.out) hX
  have HB1 : Hid (Below w.heap.size w ((w1.alloc (.cells #[.int .i64 0, .int .i64 0, .int .i64 0, .int .i64 0, .int .i64 0, .int .i64 0, .int .i64 0, .int .i64 0, .int .i64 0, .int .i64 0, .int .i64 0, .int .i64 0, .int .i64 0, .int .i64 0, .int .i64 0, .slice none 0 0, .slice none 0 0, .slice none 0 0, .slice none 0 0] 33)).setRow w1.heap.size (tbA t ad))) := hb.trans (hbV.mono hb.size)
  have HSP : Hid (∀ X, Below ((w1.alloc (.cells #[.int .i64 0, .int .i64 0, .int .i64 0, .int .i64 0, .int .i64 0, .int .i64 0, .int .i64 0, .int .i64 0, .int .i64 0, .int .i64 0, .int .i64 0, .int .i64 0, .int .i64 0, .int .i64 0, .int .i64 0, .slice none 0 0, .slice none 0 0, .slice none 0 0, .slice none 0 0] 33)).setRow w1.heap.size (tbA t ad)).heap.size ((w1.alloc (.cells #[.int .i64 0, .int .i64 0, .int .i64 0, .int .i64 0, .int .i64 0, .int .i64 0, .int .i64 0, .int .i64 0, .int .i64 0, .int .i64 0, .int .i64 0, .int .i64 0, .int .i64 0, .int .i64 0, .int .i64 0, .slice none 0 0, .slice none 0 0, .slice none 0 0, .slice none 0 0] 33)).setRow w1.heap.size (tbA t ad)) X → Calls Tryz.prog 9 #[tbV t ad, .slice na m mc] X fun e w' => ∃ R ar q, e = .returned (.tuple #[tbV R ar, .bool q]) ∧ PlA t ks R q ∧ Below X.heap.size X w') := fun X hX => (spec_plan t ad na m mc ks X (hD.t.below (hbV.trans (hX.mono hbV.size))) hD.w hD.s (hD.n.below (hbV.trans (hX.mono hbV.size))) hD.l hD.b).mono fun e w' ⟨R, ar, q, h1, h2, h3, _⟩ => ⟨R, ar, q, h1, h2, h3⟩
  have HIP : Hid (∀ X, Below ((w1.alloc (.cells #[.int .i64 0, .int .i64 0, .int .i64 0, .int .i64 0, .int .i64 0, .int .i64 0, .int .i64 0, .int .i64 0, .int .i64 0, .int .i64 0, .int .i64 0, .int .i64 0, .int .i64 0, .int .i64 0, .int .i64 0, .slice none 0 0, .slice none 0 0, .slice none 0 0, .slice none 0 0] 33)).setRow w1.heap.size (tbA t ad)).heap.size ((w1.alloc (.cells #[.int .i64 0, .int .i64 0, .int .i64 0, .int .i64 0, .int .i64 0, .int .i64 0, .int .i64 0, .int .i64 0, .int .i64 0, .int .i64 0, .int .i64 0, .int .i64 0, .int .i64 0, .int .i64 0, .int .i64 0, .slice none 0 0, .slice none 0 0, .slice none 0 0, .slice none 0 0] 33)).setRow w1.heap.size (tbA t ad)) X → Calls Tryz.prog 10 #[tbV t ad, .slice na m mc] X fun e w' => ∃ R ar q, e = .returned (.tuple #[tbV R ar, .bool q]) ∧ PlA t ks R q ∧ Below X.heap.size X w' ∧ OTR X.heap.size w' R ar) := fun X hX => impl_plan t ad na m mc ks X (hD.t.below (hbV.trans (hX.mono hbV.size))) hD.w hD.s (HTE.out X (HB1.out.trans (hX.mono HB1.out.size))) hD.c1 (hD.n.below (hbV.trans (hX.mono hbV.size))) hD.l hD.b
  have HNS : Hid (∀ X, Below ((w1.alloc (.cells #[.int .i64 0, .int .i64 0, .int .i64 0, .int .i64 0, .int .i64 0, .int .i64 0, .int .i64 0, .int .i64 0, .int .i64 0, .int .i64 0, .int .i64 0, .int .i64 0, .int .i64 0, .int .i64 0, .int .i64 0, .slice none 0 0, .slice none 0 0, .slice none 0 0, .slice none 0 0] 33)).setRow w1.heap.size (tbA t ad)).heap.size ((w1.alloc (.cells #[.int .i64 0, .int .i64 0, .int .i64 0, .int .i64 0, .int .i64 0, .int .i64 0, .int .i64 0, .int .i64 0, .int .i64 0, .int .i64 0, .int .i64 0, .int .i64 0, .int .i64 0, .int .i64 0, .int .i64 0, .slice none 0 0, .slice none 0 0, .slice none 0 0, .slice none 0 0] 33)).setRow w1.heap.size (tbA t ad)) X → GSeg 1 X na m (inX ks)) := fun X hX => hD.n.below (hbV.trans (hX.mono hbV.size))
  have HKL : Hid (ks.length = m) := hD.l
  have hmb : m ≤ 1048576 := hD.b
  clear hb hbV hD HDR HNO
  go_wp2_with (first | (refine wpList_store_row rfl 33 (.tmp 3) (.tmp 15) rfl w1.heap.size (tbA t ad) rfl rfl 33 (#[.int .i64 0, .int .i64 0, .int .i64 0, .int .i64 0, .int .i64 0, .int .i64 0, .int .i64 0, .int .i64 0, .int .i64 0, .int .i64 0, .int .i64 0, .int .i64 0, .int .i64 0, .int .i64 0, .int .i64 0, .slice none 0 0, .slice none 0 0, .slice none 0 0, .slice none 0 0]) HNR.out (by kernel_rfl) rfl (by simp [Value.oneCell']) ?_) | (refine wpList_load_row rfl 33 (.tmp 3) rfl w1.heap.size rfl 33 (tbA t ad) (0, 0) _ (HX.out _ (Below.refl _ _)) Tryz.underlying33 rfl (by kernel_rfl) ?_) | fail)
  clear HNR
  revert HX HB1 HSP HIP HNS
  generalize ((w1.alloc (.cells #[.int .i64 0, .int .i64 0, .int .i64 0, .int .i64 0, .int .i64 0, .int .i64 0, .int .i64 0, .int .i64 0, .int .i64 0, .int .i64 0, .int .i64 0, .int .i64 0, .int .i64 0, .int .i64 0, .int .i64 0, .slice none 0 0, .slice none 0 0, .slice none 0 0, .slice none 0 0] 33)).setRow w1.heap.size (tbA t ad)) = V
  generalize w1.heap.size = N
  intro HX HB1 HSP HIP HNS
  refine Calls.mono (HSP.out _ (Below.refl _ _)) ?_
  rintro e w2 ⟨R, ar, q, rfl, hq, hb2⟩
  have HQ : Hid (PlA t ks R q) := hq
  have HNR : Hid (RV (w2.alloc (.cells #[.int .i64 0, .int .i64 0, .int .i64 0, .int .i64 0, .int .i64 0, .int .i64 0, .int .i64 0, .int .i64 0, .int .i64 0, .int .i64 0, .int .i64 0, .int .i64 0, .int .i64 0, .int .i64 0, .int .i64 0, .slice none 0 0, .slice none 0 0, .slice none 0 0, .slice none 0 0] 33)) w2.heap.size (#[.int .i64 0, .int .i64 0, .int .i64 0, .int .i64 0, .int .i64 0, .int .i64 0, .int .i64 0, .int .i64 0, .int .i64 0, .int .i64 0, .int .i64 0, .int .i64 0, .int .i64 0, .int .i64 0, .int .i64 0, .slice none 0 0, .slice none 0 0, .slice none 0 0, .slice none 0 0])) := new_row w2 _ _ _ rfl
  have hbV : Below w2.heap.size w2 ((w2.alloc (.cells #[.int .i64 0, .int .i64 0, .int .i64 0, .int .i64 0, .int .i64 0, .int .i64 0, .int .i64 0, .int .i64 0, .int .i64 0, .int .i64 0, .int .i64 0, .int .i64 0, .int .i64 0, .int .i64 0, .int .i64 0, .slice none 0 0, .slice none 0 0, .slice none 0 0, .slice none 0 0] 33)).setRow w2.heap.size (tbA R ar)) := below_setRow ((Below.refl _ _).alloc (Nat.le_refl _) _) (Nat.le_refl _) _
  have HB2 : Hid (Below V.heap.size V ((w2.alloc (.cells #[.int .i64 0, .int .i64 0, .int .i64 0, .int .i64 0, .int .i64 0, .int .i64 0, .int .i64 0, .int .i64 0, .int .i64 0, .int .i64 0, .int .i64 0, .int .i64 0, .int .i64 0, .int .i64 0, .int .i64 0, .slice none 0 0, .slice none 0 0, .slice none 0 0, .slice none 0 0] 33)).setRow w2.heap.size (tbA R ar))) := hb2.trans (hbV.mono hb2.size)
  clear hq hb2 hbV HSP
  go_wp2_with (first | (refine wpList_store_row rfl 33 (.tmp 5) (.tmp 21) rfl w2.heap.size (tbA R ar) rfl rfl 33 (#[.int .i64 0, .int .i64 0, .int .i64 0, .int .i64 0, .int .i64 0, .int .i64 0, .int .i64 0, .int .i64 0, .int .i64 0, .int .i64 0, .int .i64 0, .int .i64 0, .int .i64 0, .int .i64 0, .int .i64 0, .slice none 0 0, .slice none 0 0, .slice none 0 0, .slice none 0 0]) HNR.out (by kernel_rfl) rfl (by simp [Value.oneCell']) ?_) | (refine wpList_load_row rfl 33 (.tmp 3) rfl N rfl 33 (tbA t ad) (0, 0) _ (HX.out _ HB2.out) Tryz.underlying33 rfl (by kernel_rfl) ?_) | fail)
  clear HNR
  revert HB2
  generalize ((w2.alloc (.cells #[.int .i64 0, .int .i64 0, .int .i64 0, .int .i64 0, .int .i64 0, .int .i64 0, .int .i64 0, .int .i64 0, .int .i64 0, .int .i64 0, .int .i64 0, .int .i64 0, .int .i64 0, .int .i64 0, .int .i64 0, .slice none 0 0, .slice none 0 0, .slice none 0 0, .slice none 0 0] 33)).setRow w2.heap.size (tbA R ar)) = V2
  intro HB2
  refine Calls.mono (HIP.out _ HB2.out) ?_
  rintro e w3 ⟨R', ar', q', rfl, hq, hb3, hOT⟩
  obtain ⟨rfl, rfl⟩ := PlA.uniq hq HQ.out
  have HNR : Hid (RV (w3.alloc (.cells #[.int .i64 0, .int .i64 0, .int .i64 0, .int .i64 0, .int .i64 0, .int .i64 0, .int .i64 0, .int .i64 0, .int .i64 0, .int .i64 0, .int .i64 0, .int .i64 0, .int .i64 0, .int .i64 0, .int .i64 0, .slice none 0 0, .slice none 0 0, .slice none 0 0, .slice none 0 0] 33)) w3.heap.size (#[.int .i64 0, .int .i64 0, .int .i64 0, .int .i64 0, .int .i64 0, .int .i64 0, .int .i64 0, .int .i64 0, .int .i64 0, .int .i64 0, .int .i64 0, .int .i64 0, .int .i64 0, .int .i64 0, .int .i64 0, .slice none 0 0, .slice none 0 0, .slice none 0 0, .slice none 0 0])) := new_row w3 _ _ _ rfl
  have hbV : Below w3.heap.size w3 ((w3.alloc (.cells #[.int .i64 0, .int .i64 0, .int .i64 0, .int .i64 0, .int .i64 0, .int .i64 0, .int .i64 0, .int .i64 0, .int .i64 0, .int .i64 0, .int .i64 0, .int .i64 0, .int .i64 0, .int .i64 0, .int .i64 0, .slice none 0 0, .slice none 0 0, .slice none 0 0, .slice none 0 0] 33)).setRow w3.heap.size (tbA R' ar')) := below_setRow ((Below.refl _ _).alloc (Nat.le_refl _) _) (Nat.le_refl _) _
  have HB3 : Hid (Below V.heap.size V ((w3.alloc (.cells #[.int .i64 0, .int .i64 0, .int .i64 0, .int .i64 0, .int .i64 0, .int .i64 0, .int .i64 0, .int .i64 0, .int .i64 0, .int .i64 0, .int .i64 0, .int .i64 0, .int .i64 0, .int .i64 0, .int .i64 0, .slice none 0 0, .slice none 0 0, .slice none 0 0, .slice none 0 0] 33)).setRow w3.heap.size (tbA R' ar'))) := HB2.out.trans ((hb3.trans (hbV.mono hb3.size)).mono HB2.out.size)
  have HX3 : Hid (∀ X, Below ((w3.alloc (.cells #[.int .i64 0, .int .i64 0, .int .i64 0, .int .i64 0, .int .i64 0, .int .i64 0, .int .i64 0, .int .i64 0, .int .i64 0, .int .i64 0, .int .i64 0, .int .i64 0, .int .i64 0, .int .i64 0, .int .i64 0, .slice none 0 0, .slice none 0 0, .slice none 0 0, .slice none 0 0] 33)).setRow w3.heap.size (tbA R' ar')).heap.size ((w3.alloc (.cells #[.int .i64 0, .int .i64 0, .int .i64 0, .int .i64 0, .int .i64 0, .int .i64 0, .int .i64 0, .int .i64 0, .int .i64 0, .int .i64 0, .int .i64 0, .int .i64 0, .int .i64 0, .int .i64 0, .int .i64 0, .slice none 0 0, .slice none 0 0, .slice none 0 0, .slice none 0 0] 33)).setRow w3.heap.size (tbA R' ar')) X → X.heap[w3.heap.size]? = some (.cells (tbA R' ar') 33 (0, 0))) := fun X hX => row_below (setRow_heap _ _ _ _ _ _ HNR.out) hX
  have HTM : Hid (∀ X, Below ((w3.alloc (.cells #[.int .i64 0, .int .i64 0, .int .i64 0, .int .i64 0, .int .i64 0, .int .i64 0, .int .i64 0, .int .i64 0, .int .i64 0, .int .i64 0, .int .i64 0, .int .i64 0, .int .i64 0, .int .i64 0, .int .i64 0, .slice none 0 0, .slice none 0 0, .slice none 0 0, .slice none 0 0] 33)).setRow w3.heap.size (tbA R' ar')).heap.size ((w3.alloc (.cells #[.int .i64 0, .int .i64 0, .int .i64 0, .int .i64 0, .int .i64 0, .int .i64 0, .int .i64 0, .int .i64 0, .int .i64 0, .int .i64 0, .int .i64 0, .int .i64 0, .int .i64 0, .int .i64 0, .int .i64 0, .slice none 0 0, .slice none 0 0, .slice none 0 0, .slice none 0 0] 33)).setRow w3.heap.size (tbA R' ar')) X → TM 0 X R' ar') := fun X hX => hOT.m.below (hbV.trans (hX.mono hbV.size))
  have HTW : Hid (TW R' ar') := hOT.w
  have HTS : Hid (TS ar') := hOT.s
  have HCP : Hid (ar'.pn ≤ ar'.pc) := hOT.cp
  clear hq hb3 hbV hOT HIP HX HB2
  have c18 : ((w3.alloc (.cells #[.int .i64 0, .int .i64 0, .int .i64 0, .int .i64 0, .int .i64 0, .int .i64 0, .int .i64 0, .int .i64 0, .int .i64 0, .int .i64 0, .int .i64 0, .int .i64 0, .int .i64 0, .int .i64 0, .int .i64 0, .slice none 0 0, .slice none 0 0, .slice none 0 0, .slice none 0 0] 33)).setRow w3.heap.size (tbA R' ar')).cell? ⟨w3.heap.size, 18, none⟩ = some (.slice ar'.sa ar'.sn ar'.sc) := TBx.cell (HX3.out _ (Below.refl _ _)) 18 rfl
  have HTE3 : Hid (∀ X, Below ((w3.alloc (.cells #[.int .i64 0, .int .i64 0, .int .i64 0, .int .i64 0, .int .i64 0, .int .i64 0, .int .i64 0, .int .i64 0, .int .i64 0, .int .i64 0, .int .i64 0, .int .i64 0, .int .i64 0, .int .i64 0, .int .i64 0, .slice none 0 0, .slice none 0 0, .slice none 0 0, .slice none 0 0] 33)).setRow w3.heap.size (tbA R' ar')).heap.size ((w3.alloc (.cells #[.int .i64 0, .int .i64 0, .int .i64 0, .int .i64 0, .int .i64 0, .int .i64 0, .int .i64 0, .int .i64 0, .int .i64 0, .int .i64 0, .int .i64 0, .int .i64 0, .int .i64 0, .int .i64 0, .int .i64 0, .slice none 0 0, .slice none 0 0, .slice none 0 0, .slice none 0 0] 33)).setRow w3.heap.size (tbA R' ar')) X → TabE X) := fun X hX => HTE.out X (HB1.out.trans ((HB3.out.trans (hX.mono HB3.out.size)).mono HB1.out.size))
  have HBW : Hid (Below w.heap.size w ((w3.alloc (.cells #[.int .i64 0, .int .i64 0, .int .i64 0, .int .i64 0, .int .i64 0, .int .i64 0, .int .i64 0, .int .i64 0, .int .i64 0, .int .i64 0, .int .i64 0, .int .i64 0, .int .i64 0, .int .i64 0, .int .i64 0, .slice none 0 0, .slice none 0 0, .slice none 0 0, .slice none 0 0] 33)).setRow w3.heap.size (tbA R' ar'))) := HB1.out.trans (HB3.out.mono HB1.out.size)
  have HNS3 : Hid (∀ X, Below ((w3.alloc (.cells #[.int .i64 0, .int .i64 0, .int .i64 0, .int .i64 0, .int .i64 0, .int .i64 0, .int .i64 0, .int .i64 0, .int .i64 0, .int .i64 0, .int .i64 0, .int .i64 0, .int .i64 0, .int .i64 0, .int .i64 0, .slice none 0 0, .slice none 0 0, .slice none 0 0, .slice none 0 0] 33)).setRow w3.heap.size (tbA R' ar')).heap.size ((w3.alloc (.cells #[.int .i64 0, .int .i64 0, .int .i64 0, .int .i64 0, .int .i64 0, .int .i64 0, .int .i64 0, .int .i64 0, .int .i64 0, .int .i64 0, .int .i64 0, .int .i64 0, .int .i64 0, .int .i64 0, .int .i64 0, .slice none 0 0, .slice none 0 0, .slice none 0 0, .slice none 0 0] 33)).setRow w3.heap.size (tbA R' ar')) X → GSeg 1 X na m (inX ks)) := fun X hX => HNS.out X (HB3.out.trans (hX.mono HB3.out.size))
  clear HTE HB1 HB3 HNS
  cases q'
  · have hsn : ar'.sn = 0 := by
      rcases HQ.out with ⟨_, h, _⟩ | ⟨_, _, h⟩
      · rw [← HTW.out.sl, h]; rfl
      · cases h
    rw [hsn] at c18
    clear HQ HTM HTW HTS HCP HNS3 HTE3
    go_wp2_with (first | (refine wpList_store_row rfl 33 (.tmp 7) (.tmp 27) rfl w3.heap.size (tbA R' ar') rfl rfl 33 (#[.int .i64 0, .int .i64 0, .int .i64 0, .int .i64 0, .int .i64 0, .int .i64 0, .int .i64 0, .int .i64 0, .int .i64 0, .int .i64 0, .int .i64 0, .int .i64 0, .int .i64 0, .int .i64 0, .int .i64 0, .slice none 0 0, .slice none 0 0, .slice none 0 0, .slice none 0 0]) HNR.out (by kernel_rfl) rfl (by simp [Value.oneCell']) ?_) | fail)
    go_ret
    exact ⟨rfl, HBW.out⟩
  have HSD : Hid (Sd R' ∧ ∀ p, p < m → shareN R' (p : Int) R'.ss.length = ks.getD p 0) := by
    rcases HQ.out with ⟨_, _, h⟩ | ⟨h1, h2, _⟩
    · cases h
    · subst h2
      exact ⟨plan_sd h1, fun p hp => plan_need h1 p (by rw [HKL.out]; exact hp)⟩
  clear HQ c18
  go_wp2_with (first | (refine wpList_store_row rfl 33 (.tmp 7) (.tmp 27) rfl w3.heap.size (tbA R' ar') rfl rfl 33 (#[.int .i64 0, .int .i64 0, .int .i64 0, .int .i64 0, .int .i64 0, .int .i64 0, .int .i64 0, .int .i64 0, .int .i64 0, .int .i64 0, .int .i64 0, .int .i64 0, .int .i64 0, .int .i64 0, .int .i64 0, .slice none 0 0, .slice none 0 0, .slice none 0 0, .slice none 0 0]) HNR.out (by kernel_rfl) rfl (by simp [Value.oneCell']) ?_) | (refine wpList_load_row rfl 33 (.tmp 7) rfl w3.heap.size rfl 33 (tbA R' ar') (0, 0) _ (HX3.out _ (Below.refl _ _)) Tryz.underlying33 rfl (by kernel_rfl) ?_) | fail)
  clear HNR
  revert HX3 HTM HTE3 HBW HNS3
  generalize ((w3.alloc (.cells #[.int .i64 0, .int .i64 0, .int .i64 0, .int .i64 0, .int .i64 0, .int .i64 0, .int .i64 0, .int .i64 0, .int .i64 0, .int .i64 0, .int .i64 0, .int .i64 0, .int .i64 0, .int .i64 0, .int .i64 0, .slice none 0 0, .slice none 0 0, .slice none 0 0, .slice none 0 0] 33)).setRow w3.heap.size (tbA R' ar')) = V3
  generalize w3.heap.size = N3
  intro HX3 HTM HTE3 HBW HNS3
  refine Calls.mono (impl_sound R' ar' true V3 (HTM.out _ (Below.refl _ _)) HTW.out HTS.out (HTE3.out _ (Below.refl _ _)) HCP.out ⟨fun _ => HSD.out.1, fun _ => rfl⟩) ?_
  rintro e w4 ⟨rfl, hb4⟩
  have HB4 : Hid (Below V3.heap.size V3 w4) := hb4
  clear hb4
  go_wp2
  go_loopw [9] (fun vi wr => ∃ k : Nat, k ≤ m ∧ vi = .int .i64 k ∧ Hid (Below V3.heap.size V3 wr)) (fun vi _ => m - (intOf vi).toNat)
  case atStart => exact ⟨0, by omega, rfl, HB4.out⟩
  case round =>
    clear HB4
    obtain ⟨k, hk, rfl, HB⟩ := hrel
    by_cases hlt : k < m
    rotate_left
    · obtain rfl : k = m := by omega
      have hnl : ¬ ((k : Int) < (k : Int)) := by omega
      have HBE : Hid (Below w.heap.size w wr) := HBW.out.trans (HB.out.mono HBW.out.size)
      go_wp2
      go_ret
      exact ⟨rfl, HBE.out⟩
    have hlt' : (k : Int) < (m : Int) := by omega
    obtain ⟨b1, o1, hna, hbl1, p1⟩ := (HNS3.out _ HB.out).at k hlt
    obtain ⟨v, HV⟩ : ∃ v, Hid (ks.getD k 0 = v) := ⟨_, rfl⟩
    have c1 : wr.cell? ⟨b1, o1 + k, none⟩ = some (.int .i64 v) := by
      have h := in_cell p1
      rw [HV.out] at h
      simpa using h
    have HSH : Hid (∀ x : Gr wr, Calls Tryz.prog 12 #[tbV R' ar', .int .i64 (k : Int)] x.w fun e w' => e = .returned (.int .i64 v) ∧ Below x.w.heap.size x.w w') := fun x => (impl_share R' ar' (k : Int) x.w (HTM.out _ (HB.out.trans (x.h.mono HB.out.size))) HTW.out HTS.out (HTE3.out _ (HB.out.trans (x.h.mono HB.out.size))) HCP.out).mono fun e w' ⟨⟨r, h1, h2⟩, h3⟩ => by
      rcases h2 with ⟨h2, _⟩ | ⟨_, h2⟩
      · exact absurd HSD.out.1 h2
      · exact ⟨by rw [h1, h2, HSD.out.2 k hlt, HV.out], h3⟩
    have HXX : Hid (∀ X, (∃ x : Gr wr, X = x.w) → X.heap[N3]? = some (.cells (tbA R' ar') 33 (0, 0))) := fun X ⟨x, hx⟩ => by rw [hx]; exact HX3.out _ (HB.out.trans (x.h.mono HB.out.size))
    subst hna
    clear p1 hbl1 HV
    go_wp2
    have G1 := fun X => gr_cell c1 X
    have hgr := gr_some wr
    try simp only [Act.put]
    refine region_alike (by kernel_rfl) (by kernel_rfl) ?_
    repeat (first | (refine wpQuiet_load_row rfl 33 (.tmp 7) rfl N3 rfl 33 (tbA R' ar') (0, 0) _ HXX.out Tryz.underlying33 rfl (by kernel_rfl) ?_; simp only [Act.put, List.setIfInBounds_toArray, List.set_cons_zero, List.set_cons_succ]) | go_big_quiet_step (first | (go_at_call 12; exact gr_call (HSH.out _))))
    refine wpQuiet_nil ?_
    intro _ hw'
    obtain ⟨X1, rfl⟩ := hw'
    have HBX : Hid (Below V3.heap.size V3 X1.w) := HB.out.trans (X1.h.mono HB.out.size)
    generalize X1.w = w6 at HBX ⊢
    clear G1 hgr HSH HXX c1
    go_wp2
    go_roundw
    case rel => exact ⟨k + 1, by omega, by first | rfl | go_num, HBX.out⟩
    case measure => simp [intOf]; omega
end Go.Proofs.YtmgopppgckgglaaGreatDoor
