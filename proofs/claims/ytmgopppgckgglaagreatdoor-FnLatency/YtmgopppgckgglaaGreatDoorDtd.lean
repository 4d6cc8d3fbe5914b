
/-
  Tables that are drawn out of bytes: as the chapters say, and in memory of their own. Conditions: the bytes are bytes, at most 1048576 of them.
-/
import Derived.Test.YtmgopppgckgglaaGreatDoorBas
import Derived.Test.YtmgopppgckgglaaGreatDoorDtb
namespace Go.Proofs.YtmgopppgckgglaaGreatDoor
open Go.ChangeShapes Go.WideShapes Go.ChangeAt Go.RowKit Go.Deep Go.Joins
set_option linter.unusedVariables false

theorem res_dt {W : World} {B : Nat} {cs : Array Value} {tmps : Array Value} (h : W.heap[B]? = some (.cells cs 33 (0, 0))) (hl : cs.size = 19) (ht : tmps[2]? = some (.pointer (some ⟨B, 0, none⟩))) : (results Tryz.f23 tmps).run Tryz.prog W = .ok (.agg cs) W := by
  have hld : (loadVar 33 ⟨B, 0, none⟩).run Tryz.prog W = .ok (.agg cs) W := run_loadVar_row (P := Tryz.prog) W B 33 33 cs (0, 0) _ h Tryz.underlying33 rfl (by rw [hl]; kernel_rfl)
  unfold results
  rw [Tryz.results23]
  simp [ht, asAddr, hld]
/-- Tables as they come out of bytes. -/
structure DTab (w' : World) (t : Tb) (ad : Ad) : Prop where
  d : DT t
  m : ∀ X, Below w'.heap.size w' X → TM 0 X t ad
  w : TW t ad
  s : TS ad
  c1 : ad.pn ≤ ad.pc
  c2 : ad.sn ≤ ad.sc
set_option maxRecDepth 40000 in
set_option maxHeartbeats 4000000 in
theorem draw_tables (w : World) (a : Option Addr) (zs : List Int) (cap n : Nat) (hs : Seg .u8 w a zs) (hb : ∀ z ∈ zs, (Lit.int .u8 z).wf = true) (hl : zs.length = n) (hn : n ≤ 1048576) :
    Calls Tryz.prog 23 #[.slice a n cap] w fun e w' => (∃ t ad, e = .returned (tbV t ad) ∧ DTab w' t ad) ∧ Below w.heap.size w w' := by
  have HB0 : Hid (Below w.heap.size w (w.alloc (.cells #[.int .i64 0, .int .i64 0, .int .i64 0, .int .i64 0, .int .i64 0, .int .i64 0, .int .i64 0, .int .i64 0, .int .i64 0, .int .i64 0, .int .i64 0, .int .i64 0, .int .i64 0, .int .i64 0, .int .i64 0, .slice none 0 0, .slice none 0 0, .slice none 0 0, .slice none 0 0] 33))) := (Below.refl _ _).alloc (Nat.le_refl _) _
  have HR0 : Hid (RV (w.alloc (.cells #[.int .i64 0, .int .i64 0, .int .i64 0, .int .i64 0, .int .i64 0, .int .i64 0, .int .i64 0, .int .i64 0, .int .i64 0, .int .i64 0, .int .i64 0, .int .i64 0, .int .i64 0, .int .i64 0, .int .i64 0, .slice none 0 0, .slice none 0 0, .slice none 0 0, .slice none 0 0] 33)) w.heap.size #[.int .i64 0, .int .i64 0, .int .i64 0, .int .i64 0, .int .i64 0, .int .i64 0, .int .i64 0, .int .i64 0, .int .i64 0, .int .i64 0, .int .i64 0, .int .i64 0, .int .i64 0, .int .i64 0, .int .i64 0, .slice none 0 0, .slice none 0 0, .slice none 0 0, .slice none 0 0]) := new_row w _ _ _ rfl
  have HN : Hid (Calls Tryz.prog 27 #[.slice a n cap] (w.alloc (.cells #[.int .i64 0, .int .i64 0, .int .i64 0, .int .i64 0, .int .i64 0, .int .i64 0, .int .i64 0, .int .i64 0, .int .i64 0, .int .i64 0, .int .i64 0, .int .i64 0, .int .i64 0, .int .i64 0, .int .i64 0, .slice none 0 0, .slice none 0 0, .slice none 0 0, .slice none 0 0] 33)) fun e w' => e = .returned (.pointer (some ⟨w.heap.size + 1, 0, none⟩)) ∧ Cur w' (w.heap.size + 1) a zs cap ∧ Below (w.heap.size + 1) (w.alloc (.cells #[.int .i64 0, .int .i64 0, .int .i64 0, .int .i64 0, .int .i64 0, .int .i64 0, .int .i64 0, .int .i64 0, .int .i64 0, .int .i64 0, .int .i64 0, .int .i64 0, .int .i64 0, .int .i64 0, .int .i64 0, .slice none 0 0, .slice none 0 0, .slice none 0 0, .slice none 0 0] 33)) w') := by
    have hz : (w.alloc (.cells #[.int .i64 0, .int .i64 0, .int .i64 0, .int .i64 0, .int .i64 0, .int .i64 0, .int .i64 0, .int .i64 0, .int .i64 0, .int .i64 0, .int .i64 0, .int .i64 0, .int .i64 0, .int .i64 0, .int .i64 0, .slice none 0 0, .slice none 0 0, .slice none 0 0, .slice none 0 0] 33)).heap.size = w.heap.size + 1 := by simp
    have h := draw_new (w.alloc (.cells #[.int .i64 0, .int .i64 0, .int .i64 0, .int .i64 0, .int .i64 0, .int .i64 0, .int .i64 0, .int .i64 0, .int .i64 0, .int .i64 0, .int .i64 0, .int .i64 0, .int .i64 0, .int .i64 0, .int .i64 0, .slice none 0 0, .slice none 0 0, .slice none 0 0, .slice none 0 0] 33)) a zs cap (hs.below HB0.out) hb (by omega)
    rw [hl, hz] at h
    exact h
  clear hs hb hl hn
  go_enter Tryz.func23, Tryz.ntmps23
  go_wp2_with fail
  refine Calls.mono HN.out ?_
  rintro e w1 ⟨rfl, hc, hb1⟩
  have HC1 : Hid (Cur w1 (w.heap.size + 1) a zs cap) := hc
  have HB1 : Hid (Below w.heap.size w w1) := HB0.out.trans (hb1.mono (Nat.le_succ _))
  have HR1 : Hid (RV w1 w.heap.size #[.int .i64 0, .int .i64 0, .int .i64 0, .int .i64 0, .int .i64 0, .int .i64 0, .int .i64 0, .int .i64 0, .int .i64 0, .int .i64 0, .int .i64 0, .int .i64 0, .int .i64 0, .int .i64 0, .int .i64 0, .slice none 0 0, .slice none 0 0, .slice none 0 0, .slice none 0 0]) := HR0.out.below hb1 (Nat.lt_succ_self _)
  clear hc hb1 HB0 HR0 HN
  go_wp2_with fail
  refine (draw_below _ _ _ _ _ _ HC1.out (by omega) (by omega)).mono ?_
  rintro e w2 ⟨x, rfl, hx0, hx1, hc, ht⟩
  obtain ⟨m, rfl⟩ : ∃ m : Nat, x = (m : Int) := ⟨x.toNat, by omega⟩
  have HB2 : Hid (Below w.heap.size w w2) := HB1.out.trans (ht.below (by omega) HB1.out.size)
  have HR2 : Hid (RV w2 w.heap.size #[.int .i64 0, .int .i64 0, .int .i64 0, .int .i64 0, .int .i64 0, .int .i64 0, .int .i64 0, .int .i64 0, .int .i64 0, .int .i64 0, .int .i64 0, .int .i64 0, .int .i64 0, .int .i64 0, .int .i64 0, .slice none 0 0, .slice none 0 0, .slice none 0 0, .slice none 0 0]) := HR1.out.turn ht (by omega)
  have hlt : w.heap.size < w2.heap.size := HR2.out.lt
  have HT : Hid _ := draw_tabs w2 (w.heap.size + 1) a zs cap (2 + m) hc (by omega)
  have hm2 : ((2 + m : Nat) : Int) = 2 + (m : Int) := by omega
  rw [hm2] at HT
  have hw2 : IntKind.i64.wrap (2 + (m : Int)) = 2 + (m : Int) := by rw [IntKind.wrap_i64]; omega
  clear hc ht HB1 HR1 HC1 hm2
  go_wp2_with fail
  refine Calls.mono HT.out ?_
  rintro e w3 ⟨t, ad, rfl, hdt, htm, htw, hts, hcap, _, ht⟩
  have HB3 : Hid (Below w.heap.size w w3) := HB2.out.trans (ht.below (by omega) HB2.out.size)
  have HR3 : Hid (RV w3 w.heap.size #[.int .i64 0, .int .i64 0, .int .i64 0, .int .i64 0, .int .i64 0, .int .i64 0, .int .i64 0, .int .i64 0, .int .i64 0, .int .i64 0, .int .i64 0, .int .i64 0, .int .i64 0, .int .i64 0, .int .i64 0, .slice none 0 0, .slice none 0 0, .slice none 0 0, .slice none 0 0]) := HR2.out.turn ht (by omega)
  have HBE : Hid (Below w.heap.size w (w3.setRow w.heap.size (tbA t ad))) := below_setRow HB3.out (Nat.le_refl _) _
  have HRE : Hid ((w3.setRow w.heap.size (tbA t ad)).heap[w.heap.size]? = some (.cells (tbA t ad) 33 (0, 0))) := setRow_heap _ _ _ _ _ _ HR3.out
  have HD : Hid (DTab (w3.setRow w.heap.size (tbA t ad)) t ad) := ⟨hdt, fun X hX => htm X w.heap.size (by omega) ⟨Nat.le_trans (by rw [setRow_size]; exact Nat.le_refl _) hX.size, fun k hk h1 _ => (hX.block k (by rw [setRow_size]; exact hk)).trans (setRow_other _ _ _ _ h1)⟩, htw, hts, hcap.1, hcap.2⟩
  clear hdt htm htw hts hcap ht HB2 HR2 HB3 HT
  go_wp2_with (first | (refine wpList_store_row rfl 33 (.tmp 2) (.tmp 10) rfl w.heap.size (tbA t ad) rfl rfl 33 #[.int .i64 0, .int .i64 0, .int .i64 0, .int .i64 0, .int .i64 0, .int .i64 0, .int .i64 0, .int .i64 0, .int .i64 0, .int .i64 0, .int .i64 0, .int .i64 0, .int .i64 0, .int .i64 0, .int .i64 0, .slice none 0 0, .slice none 0 0, .slice none 0 0, .slice none 0 0] HR3.out (by kernel_rfl) rfl (by simp [Value.oneCell']) ?_) | fail)
  refine bodyPost_ret (v := tbV t ad) (res_dt HRE.out rfl rfl) rfl ⟨⟨t, ad, rfl, HD.out⟩, HBE.out⟩
end Go.Proofs.YtmgopppgckgglaaGreatDoor
