/-
  What the specification's draws of costs return: costs, and a cursor that stays one. Conditions: the bytes drawn from are at most 1048576.
-/
import Derived.Test.YtikaekmnclgflaaDoorDraw
import Derived.Test.YtikaekmnclgflaaDoorBlk
import Derived.Test.YtikaekmnclgflaaDoorCost
namespace Go.Proofs.YtikaekmnclgflaaDoor
open Go.ChangeShapes Go.WideShapes Go.ChangeAt Go.RowKit Go.Deep
set_option linter.unusedVariables false
set_option maxRecDepth 20000

abbrev z7 : Array Value := #[.int .i64 0, .int .i64 0, .int .i64 0, .int .i64 0, .int .i64 0, .int .i64 0, .int .i64 0]
theorem draw_once (w : World) (B : Nat) (a : Option Addr) (zs : List Int) (cap : Nat) (n : Int) (hc : Cur w B a zs cap) (h1 : 1 ≤ n) (h2 : n ≤ 4294967296) :
    Calls Tryd.prog 18 #[.pointer (some ⟨B, 0, none⟩), .int .i64 n] w fun e w' => ∃ x : Bool, e = .returned (.bool x) ∧ Cur w' B a zs cap ∧ Turn B w w' := by
  go_enter Tryd.func18, Tryd.ntmps18
  go_wp2_with fail
  refine (draw_below _ B _ _ _ n hc h1 h2).mono ?_
  rintro e w1 ⟨x, rfl, hx0, hx1, hc1, ht1⟩
  go_wp2
  go_ret
  exact ⟨_, rfl, hc1, ht1⟩
/-- What a draw keeps: the cursor, and the answer's block. -/
structure Dr (w wr : World) (B rb : Nat) (rs : Array Value) (a : Option Addr) (zs : List Int) (cap : Nat) : Prop where
  turn : Turn B w wr
  cur : Cur wr B a zs cap
  ans : Blk wr rb rs
  hB : B < w.heap.size
  seg : ∀ b off, a = some ⟨b, off, none⟩ → 0 < zs.length → b < w.heap.size
  hrb : w.heap.size ≤ rb
theorem Dr.start {w : World} {B : Nat} {a : Option Addr} {zs : List Int} {cap : Nat} (h : Cur w B a zs cap) (rs : Array Value) (T : TypeId) : Dr w (w.alloc (.cells rs T)) B w.heap.size rs a zs cap :=
  ⟨(Turn.refl _ _).alloc _, h.alloc _, Blk.new w rs T, h.lt, seg_lt h.seg, Nat.le_refl _⟩
theorem Dr.hop {w wr w2 : World} {B rb : Nat} {rs : Array Value} {a : Option Addr} {zs : List Int} {cap : Nat} (h : Dr w wr B rb rs a zs cap) (ht : Turn B wr w2) (hc : Cur w2 B a zs cap) : Dr w w2 B rb rs a zs cap :=
  ⟨h.turn.trans ht, hc, h.ans.turn ht (by have := h.hB; have := h.hrb; omega), h.hB, h.seg, h.hrb⟩
theorem Dr.alloc {w wr : World} {B rb : Nat} {rs : Array Value} {a : Option Addr} {zs : List Int} {cap : Nat} (h : Dr w wr B rb rs a zs cap) (o : Obj) : Dr w (wr.alloc o) B rb rs a zs cap :=
  ⟨h.turn.alloc o, h.cur.alloc o, h.ans.alloc o, h.hB, h.seg, h.hrb⟩
theorem Dr.other {w wr : World} {B rb : Nat} {rs : Array Value} {a : Option Addr} {zs : List Int} {cap : Nat} (h : Dr w wr B rb rs a zs cap) (k o : Nat) (v : Value) (hk : w.heap.size ≤ k) (hn : k ≠ rb) : Dr w (wr.setCell ⟨k, o, none⟩ v) B rb rs a zs cap :=
  ⟨h.turn.set_new k o v hk, h.cur.set_other k o v (by have := h.hB; omega) (fun b off e hz => by have := h.seg b off e hz; omega), h.ans.other k o v hn, h.hB, h.seg, h.hrb⟩
theorem Dr.set {w wr : World} {B rb : Nat} {rs rs' : Array Value} {a : Option Addr} {zs : List Int} {cap : Nat} (h : Dr w wr B rb rs a zs cap) (j : Nat) (v : Value) (hj : j < rs.size) (he : rs.set! j v = rs') : Dr w (wr.setCell ⟨rb, j, none⟩ v) B rb rs' a zs cap :=
  ⟨h.turn.set_new rb j v h.hrb, h.cur.set_other rb j v (by have := h.hB; have := h.hrb; omega) (fun b off e hz => by have := h.seg b off e hz; have := h.hrb; omega), h.ans.set j v hj he, h.hB, h.seg, h.hrb⟩
/-- The answer's seven cells written. -/
theorem Dr.give7 {w wr : World} {B rb : Nat} {a : Option Addr} {zs : List Int} {cap : Nat} {u0 u1 u2 u3 u4 u5 u6 : Value} (h : Dr w wr B rb #[u0, u1, u2, u3, u4, u5, u6] a zs cap) (v0 v1 v2 v3 v4 v5 v6 : Value) :
    Dr w (((((((wr.setCell ⟨rb, 0, none⟩ v0).setCell ⟨rb, 1, none⟩ v1).setCell ⟨rb, 2, none⟩ v2).setCell ⟨rb, 3, none⟩ v3).setCell ⟨rb, 4, none⟩ v4).setCell ⟨rb, 5, none⟩ v5).setCell ⟨rb, 6, none⟩ v6) B rb #[v0, v1, v2, v3, v4, v5, v6] a zs cap := by
  have h0 := h.set (rs' := #[v0, u1, u2, u3, u4, u5, u6]) 0 v0 (by simp) (by simp)
  have h1 := h0.set (rs' := #[v0, v1, u2, u3, u4, u5, u6]) 1 v1 (by simp) (by simp)
  have h2 := h1.set (rs' := #[v0, v1, v2, u3, u4, u5, u6]) 2 v2 (by simp) (by simp)
  have h3 := h2.set (rs' := #[v0, v1, v2, v3, u4, u5, u6]) 3 v3 (by simp) (by simp)
  have h4 := h3.set (rs' := #[v0, v1, v2, v3, v4, u5, u6]) 4 v4 (by simp) (by simp)
  have h5 := h4.set (rs' := #[v0, v1, v2, v3, v4, v5, u6]) 5 v5 (by simp) (by simp)
  have h6 := h5.set (rs' := #[v0, v1, v2, v3, v4, v5, v6]) 6 v6 (by simp) (by simp)
  exact h6
set_option maxHeartbeats 4000000 in
theorem draw_costs (w : World) (B : Nat) (a : Option Addr) (zs : List Int) (cap : Nat) (hc : Cur w B a zs cap) :
    Calls Tryd.prog 29 #[.pointer (some ⟨B, 0, none⟩)] w fun r w' => ∃ b m e s k t l, r = .returned (cst b m e s k t l) ∧ Cur w' B a zs cap ∧ Turn B w w' := by
  have HD0 : Hid _ := Dr.start hc z7 25
  clear hc
  go_enter Tryd.func29, Tryd.ntmps29
  go_wp2_with fail
  refine (draw_below _ B _ _ _ 3 HD0.out.cur (by omega) (by omega)).mono ?_
  rintro r w1 ⟨b, rfl, hx0, hx1, hc1, ht1⟩
  have HD1 : Hid _ := HD0.out.hop ht1 hc1
  clear hc1 ht1
  go_wp2_with fail
  refine (draw_below _ B _ _ _ 6 HD1.out.cur (by omega) (by omega)).mono ?_
  rintro r w2 ⟨m, rfl, -, -, hc1, ht1⟩
  have HD2 : Hid _ := HD1.out.hop ht1 hc1
  clear hc1 ht1 HD1
  go_wp2_with fail
  refine (draw_below _ B _ _ _ 4 HD2.out.cur (by omega) (by omega)).mono ?_
  rintro r w3 ⟨e, rfl, -, -, hc1, ht1⟩
  have HD3 : Hid _ := HD2.out.hop ht1 hc1
  clear hc1 ht1 HD2
  go_wp2_with fail
  refine (draw_below _ B _ _ _ 8 HD3.out.cur (by omega) (by omega)).mono ?_
  rintro r w4 ⟨s, rfl, -, -, hc1, ht1⟩
  have HD4 : Hid _ := HD3.out.hop ht1 hc1
  clear hc1 ht1 HD3
  go_wp2_with fail
  refine (draw_below _ B _ _ _ 6 HD4.out.cur (by omega) (by omega)).mono ?_
  rintro r w5 ⟨k, rfl, -, -, hc1, ht1⟩
  have HD5 : Hid _ := HD4.out.hop ht1 hc1
  clear hc1 ht1 HD4
  go_wp2_with fail
  refine (draw_below _ B _ _ _ 6 HD5.out.cur (by omega) (by omega)).mono ?_
  rintro r w6 ⟨t, rfl, -, -, hc1, ht1⟩
  have HD6 : Hid _ := HD5.out.hop ht1 hc1
  clear hc1 ht1 HD5
  go_wp2_with fail
  refine (draw_below _ B _ _ _ 5 HD6.out.cur (by omega) (by omega)).mono ?_
  rintro r w7 ⟨l, rfl, -, -, hc1, ht1⟩
  have HD7 : Hid _ := HD6.out.hop ht1 hc1
  clear hc1 ht1 HD6
  have HD8 : Hid _ := HD7.out.alloc (crow 25 (1 + b) m e s k t l)
  have hKR : w7.heap.size ≠ w.heap.size := by have := HD7.out.ans.lt; omega
  have hKB : w7.heap.size ≠ B := by have := HD7.out.cur.lt; omega
  have HK8 : Hid _ := Blk.new w7 #[.int .i64 (1 + b), .int .i64 m, .int .i64 e, .int .i64 s, .int .i64 k, .int .i64 t, .int .i64 l] 25
  have hKw : w.heap.size ≤ w7.heap.size := by have := HD7.out.ans.lt; omega
  go_wp2_with fail
  refine (draw_once _ B _ _ _ 12 HD8.out.cur (by omega) (by omega)).mono ?_
  rintro r w9 ⟨x, rfl, hc1, ht1⟩
  have HD9 : Hid _ := HD8.out.hop ht1 hc1
  have HK9 : Hid _ := HK8.out.turn ht1 hKB
  clear hc1 ht1 HD8 HK8 HD7 HD0
  generalize w7.heap.size = K at HK9 hKR hKB hKw
  generalize w.heap.size = R at HD9 hKR
  have k0 := HK9.out.cell 0 _ rfl
  have k1 := HK9.out.cell 1 _ rfl
  have k2 := HK9.out.cell 2 _ rfl
  have k3 := HK9.out.cell 3 _ rfl
  have k4 := HK9.out.cell 4 _ rfl
  have k5 := HK9.out.cell 5 _ rfl
  have k6 := HK9.out.cell 6 _ rfl
  have hkf := HK9.out.free
  have r0 := HD9.out.ans.cell 0 _ rfl
  have r1 := HD9.out.ans.cell 1 _ rfl
  have r2 := HD9.out.ans.cell 2 _ rfl
  have r3 := HD9.out.ans.cell 3 _ rfl
  have r4 := HD9.out.ans.cell 4 _ rfl
  have r5 := HD9.out.ans.cell 5 _ rfl
  have r6 := HD9.out.ans.cell 6 _ rfl
  have hrf := HD9.out.ans.free
  cases x with
  | false =>
    have HE : Hid _ := HD9.out.give7
    go_wp2
    exact bodyPost_ret (v := cst (1 + b) m e s k t l) (by simp [results, Tryd.results29, go_sem, r0, r1, r2, r3, r4, r5, r6]) rfl ⟨_, _, _, _, _, _, _, rfl, (HE.out _ _ _ _ _ _ _).cur, (HE.out _ _ _ _ _ _ _).turn⟩
  | true =>
    have HE : Hid _ := ((((((HD9.out.other K 0 (.int .i64 20) hKw hKR).other K 1 (.int .i64 50) hKw hKR).other K 2 (.int .i64 50) hKw hKR).other K 3 (.int .i64 50) hKw hKR).other K 4 (.int .i64 50) hKw hKR).other K 5 (.int .i64 50) hKw hKR).other K 6 (.int .i64 50) hKw hKR |>.give7
    go_wp2
    exact bodyPost_ret (v := cst 20 50 50 50 50 50 50) (by simp [results, Tryd.results29, go_sem, r0, r1, r2, r3, r4, r5, r6]) rfl ⟨_, _, _, _, _, _, _, rfl, (HE.out _ _ _ _ _ _ _).cur, (HE.out _ _ _ _ _ _ _).turn⟩
set_option maxHeartbeats 4000000 in
theorem draw_any (w : World) (B : Nat) (a : Option Addr) (zs : List Int) (cap : Nat) (hc : Cur w B a zs cap) :
    Calls Tryd.prog 17 #[.pointer (some ⟨B, 0, none⟩)] w fun r w' => ∃ b m e s k t l, r = .returned (cst b m e s k t l) ∧ Cur w' B a zs cap ∧ Turn B w w' := by
  have HD0 : Hid _ := Dr.start hc z7 25
  clear hc
  go_enter Tryd.func17, Tryd.ntmps17
  go_wp2_with fail
  refine (draw_costs _ B _ _ _ HD0.out.cur).mono ?_
  rintro r w1 ⟨b, m, e, s, k, t, l, rfl, hc1, ht1⟩
  have HD7 : Hid _ := HD0.out.hop ht1 hc1
  clear hc1 ht1
  have HD8 : Hid _ := HD7.out.alloc (crow 25 b m e s k t l)
  have hKR : w1.heap.size ≠ w.heap.size := by have := HD7.out.ans.lt; omega
  have hKB : w1.heap.size ≠ B := by have := HD7.out.cur.lt; omega
  have HK8 : Hid _ := Blk.new w1 #[.int .i64 b, .int .i64 m, .int .i64 e, .int .i64 s, .int .i64 k, .int .i64 t, .int .i64 l] 25
  have hKw : w.heap.size ≤ w1.heap.size := by have := HD7.out.ans.lt; omega
  go_wp2_with fail
  refine (draw_below _ B _ _ _ 24 HD8.out.cur (by omega) (by omega)).mono ?_
  rintro r w9 ⟨x, rfl, hx0, hx1, hc1, ht1⟩
  have HD9 : Hid _ := HD8.out.hop ht1 hc1
  have HK9 : Hid _ := HK8.out.turn ht1 hKB
  clear hc1 ht1 HD8 HK8 HD7 HD0
  generalize w1.heap.size = K at HK9 hKR hKB hKw
  generalize w.heap.size = R at HD9 hKR
  by_cases h0 : x = 0
  · have e0 : (x == 0) = true := by rw [h0]; rfl
    clear h0
    have HDA : Hid _ := HD9.out.alloc (.cells (([0, 21, -1] : List Int).map (Value.int .i64)).toArray 3)
    have HKA : Hid _ := HK9.out.alloc (.cells (([0, 21, -1] : List Int).map (Value.int .i64)).toArray 3)
    go_wp2_with fail
    refine (draw_pick _ B w9.heap.size _ _ _ [0, 21, -1] HDA.out.cur (own_lit .i64 w9 3 _) (by have := HD9.out.cur.lt; omega) (by decide) (by decide)).mono ?_
    rintro r w10 ⟨y, rfl, -, hc1, ht1⟩
    have HDB : Hid _ := HDA.out.hop ht1 hc1
    have HKB : Hid _ := HKA.out.turn ht1 hKB
    clear hc1 ht1 HDA HKA HD9 HK9
    have k0 := HKB.out.cell 0 _ rfl
    have k1 := HKB.out.cell 1 _ rfl
    have k2 := HKB.out.cell 2 _ rfl
    have k3 := HKB.out.cell 3 _ rfl
    have k4 := HKB.out.cell 4 _ rfl
    have k5 := HKB.out.cell 5 _ rfl
    have k6 := HKB.out.cell 6 _ rfl
    have hkf := HKB.out.free
    have r0 := HDB.out.ans.cell 0 _ rfl
    have r1 := HDB.out.ans.cell 1 _ rfl
    have r2 := HDB.out.ans.cell 2 _ rfl
    have r3 := HDB.out.ans.cell 3 _ rfl
    have r4 := HDB.out.ans.cell 4 _ rfl
    have r5 := HDB.out.ans.cell 5 _ rfl
    have r6 := HDB.out.ans.cell 6 _ rfl
    have hrf := HDB.out.ans.free
    have HE : Hid _ := (HDB.out.other K 0 (.int .i64 y) hKw hKR).give7
    go_wp2
    exact bodyPost_ret (v := cst y m e s k t l) (by simp [results, Tryd.results17, go_sem, r0, r1, r2, r3, r4, r5, r6]) rfl ⟨_, _, _, _, _, _, _, rfl, (HE.out _ _ _ _ _ _ _).cur, (HE.out _ _ _ _ _ _ _).turn⟩
  have e0 : (x == 0) = false := by simpa using h0
  clear h0
  by_cases h1 : x = 1
  · have e1 : (x == 1) = true := by rw [h1]; rfl
    clear h1
    have HDA : Hid _ := HD9.out.alloc (.cells (([-1, 51] : List Int).map (Value.int .i64)).toArray 3)
    have HKA : Hid _ := HK9.out.alloc (.cells (([-1, 51] : List Int).map (Value.int .i64)).toArray 3)
    go_wp2_with fail
    refine (draw_pick _ B w9.heap.size _ _ _ [-1, 51] HDA.out.cur (own_lit .i64 w9 3 _) (by have := HD9.out.cur.lt; omega) (by decide) (by decide)).mono ?_
    rintro r w10 ⟨y, rfl, -, hc1, ht1⟩
    have HDB : Hid _ := HDA.out.hop ht1 hc1
    have HKB : Hid _ := HKA.out.turn ht1 hKB
    clear hc1 ht1 HDA HKA HD9 HK9
    have k0 := HKB.out.cell 0 _ rfl
    have k1 := HKB.out.cell 1 _ rfl
    have k2 := HKB.out.cell 2 _ rfl
    have k3 := HKB.out.cell 3 _ rfl
    have k4 := HKB.out.cell 4 _ rfl
    have k5 := HKB.out.cell 5 _ rfl
    have k6 := HKB.out.cell 6 _ rfl
    have hkf := HKB.out.free
    have r0 := HDB.out.ans.cell 0 _ rfl
    have r1 := HDB.out.ans.cell 1 _ rfl
    have r2 := HDB.out.ans.cell 2 _ rfl
    have r3 := HDB.out.ans.cell 3 _ rfl
    have r4 := HDB.out.ans.cell 4 _ rfl
    have r5 := HDB.out.ans.cell 5 _ rfl
    have r6 := HDB.out.ans.cell 6 _ rfl
    have hrf := HDB.out.ans.free
    have HE : Hid _ := (HDB.out.other K 1 (.int .i64 y) hKw hKR).give7
    go_wp2
    exact bodyPost_ret (v := cst b y e s k t l) (by simp [results, Tryd.results17, go_sem, r0, r1, r2, r3, r4, r5, r6]) rfl ⟨_, _, _, _, _, _, _, rfl, (HE.out _ _ _ _ _ _ _).cur, (HE.out _ _ _ _ _ _ _).turn⟩
  have e1 : (x == 1) = false := by simpa using h1
  clear h1
  by_cases h2 : x = 2
  · have e2 : (x == 2) = true := by rw [h2]; rfl
    clear h2
    have HDA : Hid _ := HD9.out.alloc (.cells (([-1, 51] : List Int).map (Value.int .i64)).toArray 3)
    have HKA : Hid _ := HK9.out.alloc (.cells (([-1, 51] : List Int).map (Value.int .i64)).toArray 3)
    go_wp2_with fail
    refine (draw_pick _ B w9.heap.size _ _ _ [-1, 51] HDA.out.cur (own_lit .i64 w9 3 _) (by have := HD9.out.cur.lt; omega) (by decide) (by decide)).mono ?_
    rintro r w10 ⟨y, rfl, -, hc1, ht1⟩
    have HDB : Hid _ := HDA.out.hop ht1 hc1
    have HKB : Hid _ := HKA.out.turn ht1 hKB
    clear hc1 ht1 HDA HKA HD9 HK9
    have k0 := HKB.out.cell 0 _ rfl
    have k1 := HKB.out.cell 1 _ rfl
    have k2 := HKB.out.cell 2 _ rfl
    have k3 := HKB.out.cell 3 _ rfl
    have k4 := HKB.out.cell 4 _ rfl
    have k5 := HKB.out.cell 5 _ rfl
    have k6 := HKB.out.cell 6 _ rfl
    have hkf := HKB.out.free
    have r0 := HDB.out.ans.cell 0 _ rfl
    have r1 := HDB.out.ans.cell 1 _ rfl
    have r2 := HDB.out.ans.cell 2 _ rfl
    have r3 := HDB.out.ans.cell 3 _ rfl
    have r4 := HDB.out.ans.cell 4 _ rfl
    have r5 := HDB.out.ans.cell 5 _ rfl
    have r6 := HDB.out.ans.cell 6 _ rfl
    have hrf := HDB.out.ans.free
    have HE : Hid _ := (HDB.out.other K 2 (.int .i64 y) hKw hKR).give7
    go_wp2
    exact bodyPost_ret (v := cst b m y s k t l) (by simp [results, Tryd.results17, go_sem, r0, r1, r2, r3, r4, r5, r6]) rfl ⟨_, _, _, _, _, _, _, rfl, (HE.out _ _ _ _ _ _ _).cur, (HE.out _ _ _ _ _ _ _).turn⟩
  have e2 : (x == 2) = false := by simpa using h2
  clear h2
  by_cases h3 : x = 3
  · have e3 : (x == 3) = true := by rw [h3]; rfl
    clear h3
    have HDA : Hid _ := HD9.out.alloc (.cells (([-1, 51] : List Int).map (Value.int .i64)).toArray 3)
    have HKA : Hid _ := HK9.out.alloc (.cells (([-1, 51] : List Int).map (Value.int .i64)).toArray 3)
    go_wp2_with fail
    refine (draw_pick _ B w9.heap.size _ _ _ [-1, 51] HDA.out.cur (own_lit .i64 w9 3 _) (by have := HD9.out.cur.lt; omega) (by decide) (by decide)).mono ?_
    rintro r w10 ⟨y, rfl, -, hc1, ht1⟩
    have HDB : Hid _ := HDA.out.hop ht1 hc1
    have HKB : Hid _ := HKA.out.turn ht1 hKB
    clear hc1 ht1 HDA HKA HD9 HK9
    have k0 := HKB.out.cell 0 _ rfl
    have k1 := HKB.out.cell 1 _ rfl
    have k2 := HKB.out.cell 2 _ rfl
    have k3 := HKB.out.cell 3 _ rfl
    have k4 := HKB.out.cell 4 _ rfl
    have k5 := HKB.out.cell 5 _ rfl
    have k6 := HKB.out.cell 6 _ rfl
    have hkf := HKB.out.free
    have r0 := HDB.out.ans.cell 0 _ rfl
    have r1 := HDB.out.ans.cell 1 _ rfl
    have r2 := HDB.out.ans.cell 2 _ rfl
    have r3 := HDB.out.ans.cell 3 _ rfl
    have r4 := HDB.out.ans.cell 4 _ rfl
    have r5 := HDB.out.ans.cell 5 _ rfl
    have r6 := HDB.out.ans.cell 6 _ rfl
    have hrf := HDB.out.ans.free
    have HE : Hid _ := (HDB.out.other K 3 (.int .i64 y) hKw hKR).give7
    go_wp2
    exact bodyPost_ret (v := cst b m e y k t l) (by simp [results, Tryd.results17, go_sem, r0, r1, r2, r3, r4, r5, r6]) rfl ⟨_, _, _, _, _, _, _, rfl, (HE.out _ _ _ _ _ _ _).cur, (HE.out _ _ _ _ _ _ _).turn⟩
  have e3 : (x == 3) = false := by simpa using h3
  clear h3
  by_cases h4 : x = 4
  · have e4 : (x == 4) = true := by rw [h4]; rfl
    clear h4
    have HDA : Hid _ := HD9.out.alloc (.cells (([-1, 51] : List Int).map (Value.int .i64)).toArray 3)
    have HKA : Hid _ := HK9.out.alloc (.cells (([-1, 51] : List Int).map (Value.int .i64)).toArray 3)
    go_wp2_with fail
    refine (draw_pick _ B w9.heap.size _ _ _ [-1, 51] HDA.out.cur (own_lit .i64 w9 3 _) (by have := HD9.out.cur.lt; omega) (by decide) (by decide)).mono ?_
    rintro r w10 ⟨y, rfl, -, hc1, ht1⟩
    have HDB : Hid _ := HDA.out.hop ht1 hc1
    have HKB : Hid _ := HKA.out.turn ht1 hKB
    clear hc1 ht1 HDA HKA HD9 HK9
    have k0 := HKB.out.cell 0 _ rfl
    have k1 := HKB.out.cell 1 _ rfl
    have k2 := HKB.out.cell 2 _ rfl
    have k3 := HKB.out.cell 3 _ rfl
    have k4 := HKB.out.cell 4 _ rfl
    have k5 := HKB.out.cell 5 _ rfl
    have k6 := HKB.out.cell 6 _ rfl
    have hkf := HKB.out.free
    have r0 := HDB.out.ans.cell 0 _ rfl
    have r1 := HDB.out.ans.cell 1 _ rfl
    have r2 := HDB.out.ans.cell 2 _ rfl
    have r3 := HDB.out.ans.cell 3 _ rfl
    have r4 := HDB.out.ans.cell 4 _ rfl
    have r5 := HDB.out.ans.cell 5 _ rfl
    have r6 := HDB.out.ans.cell 6 _ rfl
    have hrf := HDB.out.ans.free
    have HE : Hid _ := (HDB.out.other K 4 (.int .i64 y) hKw hKR).give7
    go_wp2
    exact bodyPost_ret (v := cst b m e s y t l) (by simp [results, Tryd.results17, go_sem, r0, r1, r2, r3, r4, r5, r6]) rfl ⟨_, _, _, _, _, _, _, rfl, (HE.out _ _ _ _ _ _ _).cur, (HE.out _ _ _ _ _ _ _).turn⟩
  have e4 : (x == 4) = false := by simpa using h4
  clear h4
  by_cases h5 : x = 5
  · have e5 : (x == 5) = true := by rw [h5]; rfl
    clear h5
    have HDA : Hid _ := HD9.out.alloc (.cells (([-1, 51] : List Int).map (Value.int .i64)).toArray 3)
    have HKA : Hid _ := HK9.out.alloc (.cells (([-1, 51] : List Int).map (Value.int .i64)).toArray 3)
    go_wp2_with fail
    refine (draw_pick _ B w9.heap.size _ _ _ [-1, 51] HDA.out.cur (own_lit .i64 w9 3 _) (by have := HD9.out.cur.lt; omega) (by decide) (by decide)).mono ?_
    rintro r w10 ⟨y, rfl, -, hc1, ht1⟩
    have HDB : Hid _ := HDA.out.hop ht1 hc1
    have HKB : Hid _ := HKA.out.turn ht1 hKB
    clear hc1 ht1 HDA HKA HD9 HK9
    have k0 := HKB.out.cell 0 _ rfl
    have k1 := HKB.out.cell 1 _ rfl
    have k2 := HKB.out.cell 2 _ rfl
    have k3 := HKB.out.cell 3 _ rfl
    have k4 := HKB.out.cell 4 _ rfl
    have k5 := HKB.out.cell 5 _ rfl
    have k6 := HKB.out.cell 6 _ rfl
    have hkf := HKB.out.free
    have r0 := HDB.out.ans.cell 0 _ rfl
    have r1 := HDB.out.ans.cell 1 _ rfl
    have r2 := HDB.out.ans.cell 2 _ rfl
    have r3 := HDB.out.ans.cell 3 _ rfl
    have r4 := HDB.out.ans.cell 4 _ rfl
    have r5 := HDB.out.ans.cell 5 _ rfl
    have r6 := HDB.out.ans.cell 6 _ rfl
    have hrf := HDB.out.ans.free
    have HE : Hid _ := (HDB.out.other K 5 (.int .i64 y) hKw hKR).give7
    go_wp2
    exact bodyPost_ret (v := cst b m e s k y l) (by simp [results, Tryd.results17, go_sem, r0, r1, r2, r3, r4, r5, r6]) rfl ⟨_, _, _, _, _, _, _, rfl, (HE.out _ _ _ _ _ _ _).cur, (HE.out _ _ _ _ _ _ _).turn⟩
  have e5 : (x == 5) = false := by simpa using h5
  clear h5
  by_cases h6 : x = 6
  · have e6 : (x == 6) = true := by rw [h6]; rfl
    clear h6
    have HDA : Hid _ := HD9.out.alloc (.cells (([-1, 51] : List Int).map (Value.int .i64)).toArray 3)
    have HKA : Hid _ := HK9.out.alloc (.cells (([-1, 51] : List Int).map (Value.int .i64)).toArray 3)
    go_wp2_with fail
    refine (draw_pick _ B w9.heap.size _ _ _ [-1, 51] HDA.out.cur (own_lit .i64 w9 3 _) (by have := HD9.out.cur.lt; omega) (by decide) (by decide)).mono ?_
    rintro r w10 ⟨y, rfl, -, hc1, ht1⟩
    have HDB : Hid _ := HDA.out.hop ht1 hc1
    have HKB : Hid _ := HKA.out.turn ht1 hKB
    clear hc1 ht1 HDA HKA HD9 HK9
    have k0 := HKB.out.cell 0 _ rfl
    have k1 := HKB.out.cell 1 _ rfl
    have k2 := HKB.out.cell 2 _ rfl
    have k3 := HKB.out.cell 3 _ rfl
    have k4 := HKB.out.cell 4 _ rfl
    have k5 := HKB.out.cell 5 _ rfl
    have k6 := HKB.out.cell 6 _ rfl
    have hkf := HKB.out.free
    have r0 := HDB.out.ans.cell 0 _ rfl
    have r1 := HDB.out.ans.cell 1 _ rfl
    have r2 := HDB.out.ans.cell 2 _ rfl
    have r3 := HDB.out.ans.cell 3 _ rfl
    have r4 := HDB.out.ans.cell 4 _ rfl
    have r5 := HDB.out.ans.cell 5 _ rfl
    have r6 := HDB.out.ans.cell 6 _ rfl
    have hrf := HDB.out.ans.free
    have HE : Hid _ := (HDB.out.other K 6 (.int .i64 y) hKw hKR).give7
    go_wp2
    exact bodyPost_ret (v := cst b m e s k t y) (by simp [results, Tryd.results17, go_sem, r0, r1, r2, r3, r4, r5, r6]) rfl ⟨_, _, _, _, _, _, _, rfl, (HE.out _ _ _ _ _ _ _).cur, (HE.out _ _ _ _ _ _ _).turn⟩
  have e6 : (x == 6) = false := by simpa using h6
  clear h6
  have k0 := HK9.out.cell 0 _ rfl
  have k1 := HK9.out.cell 1 _ rfl
  have k2 := HK9.out.cell 2 _ rfl
  have k3 := HK9.out.cell 3 _ rfl
  have k4 := HK9.out.cell 4 _ rfl
  have k5 := HK9.out.cell 5 _ rfl
  have k6 := HK9.out.cell 6 _ rfl
  have hkf := HK9.out.free
  have r0 := HD9.out.ans.cell 0 _ rfl
  have r1 := HD9.out.ans.cell 1 _ rfl
  have r2 := HD9.out.ans.cell 2 _ rfl
  have r3 := HD9.out.ans.cell 3 _ rfl
  have r4 := HD9.out.ans.cell 4 _ rfl
  have r5 := HD9.out.ans.cell 5 _ rfl
  have r6 := HD9.out.ans.cell 6 _ rfl
  have hrf := HD9.out.ans.free
  have HE : Hid _ := HD9.out.give7
  go_wp2
  exact bodyPost_ret (v := cst b m e s k t l) (by simp [results, Tryd.results17, go_sem, r0, r1, r2, r3, r4, r5, r6]) rfl ⟨_, _, _, _, _, _, _, rfl, (HE.out _ _ _ _ _ _ _).cur, (HE.out _ _ _ _ _ _ _).turn⟩
end Go.Proofs.YtikaekmnclgflaaDoor
