/-
  What the specification's draw of costs and an access returns. Conditions: the bytes drawn from are at most 1048576.
-/
import Derived.Test.YtikaekmnclgflaaDoorDco
import Derived.Deep.RegionWith
import Derived.Deep.RegionHeld3
import Derived.Deep.DeepMust
namespace Go.Proofs.YtikaekmnclgflaaDoor
open Go.ChangeShapes Go.WideShapes Go.ChangeAt Go.RowKit Go.Deep
set_option linter.unusedVariables false
set_option maxRecDepth 20000

theorem cell_heap {w w' : World} (h : w'.heap = w.heap) (p : Addr) : w'.cell? p = w.cell? p := by unfold World.cell?; rw [h]
theorem frozen_heap {w w' : World} (h : w'.heap = w.heap) (p : Addr) : w'.frozen? p = w.frozen? p := by unfold World.frozen?; rw [h]
theorem Seg.of_heap {k : IntKind} {w w' : World} {a : Option Addr} {zs : List Int} (e : w'.heap = w.heap) (h : Seg k w a zs) : Seg k w' a zs := by
  intro h0
  obtain ⟨b, off, ea, hlt, hc⟩ := h h0
  exact ⟨b, off, ea, by rw [e]; exact hlt, fun i hi => (cell_heap e _).trans (hc i hi)⟩
theorem Cur.of_heap {w w' : World} {B : Nat} {a : Option Addr} {zs : List Int} {cap : Nat} (e : w'.heap = w.heap) (h : Cur w B a zs cap) : Cur w' B a zs cap := by
  obtain ⟨i, hi, e1⟩ := h.c1
  obtain ⟨x, e2⟩ := h.c2
  exact ⟨by rw [e]; exact h.lt, (cell_heap e _).trans h.c0, ⟨i, hi, (cell_heap e _).trans e1⟩, ⟨x, (cell_heap e _).trans e2⟩, fun i => (frozen_heap e _).trans (h.free i), h.seg.of_heap e, h.far, h.byte, h.small⟩
theorem Blk.of_heap {w w' : World} {b : Nat} {cs : Array Value} (e : w'.heap = w.heap) (h : Blk w b cs) : Blk w' b cs :=
  ⟨by rw [e]; exact h.lt, fun i v g => (cell_heap e _).trans (h.cell i v g), fun i => (frozen_heap e _).trans (h.free i)⟩
/-- A block of the call's own, kept while a cursor is turned (the world of the turn may have drawn). -/
theorem cur_heap {w w' : World} {B : Nat} {a : Option Addr} {zs : List Int} {cap : Nat} (h : Cur w B a zs cap) (e : w'.heap = w.heap) : Cur w' B a zs cap := Cur.of_heap e h
theorem blk_next {w wx w' : World} {b B : Nat} {cs : Array Value} (ht : Turn B wx w') (hn : b ≠ B) (h : Blk w b cs) (e : wx.heap = w.heap) : Hid (Blk w' b cs) := (h.of_heap e).turn ht hn
theorem below_next {w wx w' : World} {C : Nat} (ht : Turn (C + 2) wx w') (h : Below C w wx) (hs : C ≤ w.heap.size) : Hid (Below C w w') := h.trans (ht.below (by omega) (Nat.le_trans hs h.size))
theorem below_ten {C : Nat} {w X : World} (h : Below C w X) (v0 v1 v2 v3 v4 v5 v6 u0 u1 u2 : Value) :
    Below C w ((((((((((X.setCell ⟨C, 0, none⟩ v0).setCell ⟨C, 1, none⟩ v1).setCell ⟨C, 2, none⟩ v2).setCell ⟨C, 3, none⟩ v3).setCell ⟨C, 4, none⟩ v4).setCell ⟨C, 5, none⟩ v5).setCell ⟨C, 6, none⟩ v6).setCell ⟨C + 1, 0, none⟩ u0).setCell ⟨C + 1, 1, none⟩ u1).setCell ⟨C + 1, 2, none⟩ u2) := by
  have h0 := h.setCell (p := ⟨C, 0, none⟩) (Nat.le_refl _) v0
  have h1 := h0.setCell (p := ⟨C, 1, none⟩) (Nat.le_refl _) v1
  have h2 := h1.setCell (p := ⟨C, 2, none⟩) (Nat.le_refl _) v2
  have h3 := h2.setCell (p := ⟨C, 3, none⟩) (Nat.le_refl _) v3
  have h4 := h3.setCell (p := ⟨C, 4, none⟩) (Nat.le_refl _) v4
  have h5 := h4.setCell (p := ⟨C, 5, none⟩) (Nat.le_refl _) v5
  have h6 := h5.setCell (p := ⟨C, 6, none⟩) (Nat.le_refl _) v6
  have h7 := h6.setCell (p := ⟨C + 1, 0, none⟩) (Nat.le_succ _) u0
  have h8 := h7.setCell (p := ⟨C + 1, 1, none⟩) (Nat.le_succ _) u1
  exact h8.setCell (p := ⟨C + 1, 2, none⟩) (Nat.le_succ _) u2
set_option maxHeartbeats 8000000 in
theorem draw_access (w : World) (a : Option Addr) (zs : List Int) (cap : Nat) (hs : Seg .u8 w a zs) (hb : ∀ z ∈ zs, (Lit.int .u8 z).wf = true) (hn : zs.length ≤ 1048576) :
    Calls Tryd.prog 7 #[.slice a zs.length cap] w fun r w' => ∃ b m e s k t l x y z, r = .returned (.tuple #[cst b m e s k t l, acc x y z]) ∧ Below w.heap.size w w' := by
  obtain ⟨n, Hn⟩ : ∃ n, Hid (n = zs.length) := ⟨_, rfl⟩
  have HN : Hid _ := draw_new ((w.alloc (.cells z7 25)).alloc (.cells #[.bool false, .bool false, .bool false] 27)) a zs cap (hs.below (((Below.refl _ _).alloc (Nat.le_refl _) _).alloc (by simp) _)) hb hn
  have HB0 : Hid (Below w.heap.size w ((w.alloc (.cells z7 25)).alloc (.cells #[.bool false, .bool false, .bool false] 27))) := ((Below.refl _ _).alloc (Nat.le_refl _) _).alloc (by simp) _
  have HR1 : Hid _ := (Blk.new w z7 25).alloc (.cells #[.bool false, .bool false, .bool false] 27)
  have HR2 : Hid _ := Blk.new (w.alloc (.cells z7 25)) #[.bool false, .bool false, .bool false] 27
  have hz : (w.alloc (.cells z7 25)).heap.size = w.heap.size + 1 := by simp
  have hz2 : ((w.alloc (.cells z7 25)).alloc (.cells #[.bool false, .bool false, .bool false] 27)).heap.size = w.heap.size + 2 := by simp
  rw [hz] at HR2
  rw [hz2] at HN
  rw [← Hn.out] at HN ⊢
  clear hs hb hn hz hz2
  go_enter Tryd.func7, Tryd.ntmps7
  go_wp2_with fail
  refine Calls.mono HN.out ?_
  rintro r w1 ⟨rfl, hcur, hbel⟩
  have hbel0 : Below (w.heap.size + 2) ((w.alloc (.cells z7 25)).alloc (.cells #[.bool false, .bool false, .bool false] 27)) w1 := hbel
  have HR1a : Hid _ := HR1.out.below (hbel0.mono (by simp))
  have HR2a : Hid _ := HR2.out.below (hbel0.mono (by simp))
  have HB1 : Hid _ := HB0.out.trans (hbel0.mono (by omega))
  have HC1 : Hid _ := hcur
  clear hbel hbel0 hcur HR1 HR2 HB0 HN
  have hne1 : w.heap.size ≠ w.heap.size + 2 := by omega
  have hne2 : w.heap.size + 1 ≠ w.heap.size + 2 := by omega
  go_wp2_with fail
  refine (draw_any _ (w.heap.size + 2) _ _ _ HC1.out).mono ?_
  rintro r w2 ⟨b, m, e, s, k, t, l, rfl, hcur, ht⟩
  have hr1 := (HR1a.out.turn ht hne1).alloc (crow 25 b m e s k t l)
  have hr2 := (HR2a.out.turn ht hne2).alloc (crow 25 b m e s k t l)
  have hb := (HB1.out.trans (ht.below (C := w.heap.size) (by omega) HB1.out.size)).alloc (HB1.out.trans (ht.below (C := w.heap.size) (by omega) HB1.out.size)).size (crow 25 b m e s k t l)
  replace hcur := hcur.alloc (crow 25 b m e s k t l)
  have hk := Blk.new w2 #[.int .i64 b, .int .i64 m, .int .i64 e, .int .i64 s, .int .i64 k, .int .i64 t, .int .i64 l] 25
  have hkB : w2.heap.size ≠ w.heap.size + 2 := by
    have h1 := HC1.out.lt
    have h2 := ht.size
    omega
  have hkw : w.heap.size + 2 ≤ w2.heap.size := by
    have h1 := HC1.out.lt
    have h2 := ht.size
    omega
  clear HR1a HR2a HB1 HC1 ht
  go_wp2_with fail
  generalize w2.heap.size = K at *
  generalize w2.alloc (crow 25 b m e s k t l) = w3 at *
  have HK : Hid _ := hk
  have HR1 : Hid _ := hr1
  have HR2 : Hid _ := hr2
  have HC : Hid _ := hcur
  have HB : Hid _ := hb
  clear hk hr1 hr2 hcur hb
  have k0 := HK.out.cell 0 _ rfl; have k1 := HK.out.cell 1 _ rfl; have k2 := HK.out.cell 2 _ rfl; have k3 := HK.out.cell 3 _ rfl; have k4 := HK.out.cell 4 _ rfl; have k5 := HK.out.cell 5 _ rfl; have k6 := HK.out.cell 6 _ rfl; have r0 := HR1.out.cell 0 _ rfl; have r1 := HR1.out.cell 1 _ rfl; have r2 := HR1.out.cell 2 _ rfl; have r3 := HR1.out.cell 3 _ rfl; have r4 := HR1.out.cell 4 _ rfl; have r5 := HR1.out.cell 5 _ rfl; have r6 := HR1.out.cell 6 _ rfl; have q0 := HR2.out.cell 0 _ rfl; have q1 := HR2.out.cell 1 _ rfl; have q2 := HR2.out.cell 2 _ rfl; have hrf1 := HR1.out.free; have hrf2 := HR2.out.free
  have hKR1 : K ≠ w.heap.size := by omega
  have hKR2 : K ≠ w.heap.size + 1 := by omega
  go_region_with (first | (go_at_call 18; go_must (refine Calls.mono (draw_once _ (w.heap.size + 2) _ _ _ 2 (cur_heap HC.out rfl) (by omega) (by omega)) ?_; rintro x w9 ⟨v, rfl, hc1, ht1⟩; replace HK := blk_next ht1 hkB HK.out rfl; replace HR1 := blk_next ht1 hne1 HR1.out rfl; replace HR2 := blk_next ht1 hne2 HR2.out rfl; replace HC : Hid _ := hc1; (first | replace HB := below_next ht1 HB.out (Nat.le_refl _) | replace HB := below_next ht1 HB.out.drew (Nat.le_refl _)); clear k0 k1 k2 k3 k4 k5 k6 r0 r1 r2 r3 r4 r5 r6 q0 q1 q2 hrf1 hrf2; have k0 := HK.out.cell 0 _ rfl; have k1 := HK.out.cell 1 _ rfl; have k2 := HK.out.cell 2 _ rfl; have k3 := HK.out.cell 3 _ rfl; have k4 := HK.out.cell 4 _ rfl; have k5 := HK.out.cell 5 _ rfl; have k6 := HK.out.cell 6 _ rfl; have r0 := HR1.out.cell 0 _ rfl; have r1 := HR1.out.cell 1 _ rfl; have r2 := HR1.out.cell 2 _ rfl; have r3 := HR1.out.cell 3 _ rfl; have r4 := HR1.out.cell 4 _ rfl; have r5 := HR1.out.cell 5 _ rfl; have r6 := HR1.out.cell 6 _ rfl; have q0 := HR2.out.cell 0 _ rfl; have q1 := HR2.out.cell 1 _ rfl; have q2 := HR2.out.cell 2 _ rfl; have hrf1 := HR1.out.free; have hrf2 := HR2.out.free; clear hc1 ht1)))
  all_goals
    rename_i wa va wb vb
    go_wp2
    refine bodyPost_ret (v := .tuple #[cst b m e s k t l, acc va vb v]) ?_ rfl ⟨_, _, _, _, _, _, _, _, _, _, rfl, ?_⟩
    · simp [results, Tryd.results7, go_sem, r0, r1, r2, r3, r4, r5, r6, q0, q1, q2]
    · first | exact below_ten HB.out _ _ _ _ _ _ _ _ _ _ | exact below_ten HB.out.drew _ _ _ _ _ _ _ _ _ _
end Go.Proofs.YtikaekmnclgflaaDoor
