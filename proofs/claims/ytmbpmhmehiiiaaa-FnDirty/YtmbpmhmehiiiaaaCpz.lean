
/-
  A whole slice of ways appended to a list of the call's own, and a row appended to rows, at a step of a region that draws its order: the new slice's shape written out. Conditions: at most 1048576 ways together.
-/
import Derived.Test.YtmbpmhmehiiiaaaRows
import Derived.Test.YtmbpmhmehiiiaaaCpy
namespace Go.Proofs.Ytmbpmhmehiiiaaa
open Go.ChangeShapes Go.WideShapes Go.ChangeAt Go.RowKit Go.Deep
set_option linter.unusedVariables false

theorem OwnW.shape {w : World} {base : Nat} {v : Value} {ws : List Wy} {n : Nat} (h : OwnW w base v ws) (hv : v ≠ .slice none 0 0) (hn : ws.length = n) : ∃ g cap, v = .slice (some ⟨g, 0, none⟩) n cap ∧ n ≤ cap ∧ OW w base w.heap.size (some ⟨g, 0, none⟩) ws g := by
  subst hn
  rcases h.2 with ⟨h0, h1⟩ | ⟨g, cap, cur, e, hb, hg, h1, r⟩
  · exact absurd h0 hv
  · subst e
    refine ⟨g, cap, rfl, h1, ?_⟩
    obtain ⟨a, c, R, e2, _, how⟩ := h.ow
    injection e2 with e3 e4 e5
    subst e3
    intro h0
    obtain ⟨off, e6, r6⟩ := how h0
    injection e6 with e6
    injection e6 with e7 e8 e9
    subst e7 e8
    exact ⟨0, rfl, r6⟩
theorem step_append_ways_s {ops : Array Oper} {o : Oper} {ac : Act} {K : Act → World → Prop} {Q : Exit → Act → World → Prop} {E : Prop} (w : World) (hgd : o.guard = none) (s x : Operand) (t : TypeId)
    (ho : o.op = .call { callee := .builtin .append, args := #[s, x], argTypes := #[t, t] }) (ht : Try.prog.underlying t = some (.slice 61))
    (base : Nat) (v : Value) (us ws : List Wy) (a : Option Addr) (n c : Nat) (hsv : ac.eval s = v) (hxv : ac.eval x = .slice a n c) (hl : ws.length = n)
    (hown : OwnW w base v us) (hs : WSeg w a ws) (hn : us.length + ws.length ≤ 1048576) (hbase : base ≤ w.heap.size) (hv : v ≠ .slice none 0 0) (d : Option Nat) (hd : o.dst = d) (N : Nat) (hN : us.length + n = N)
    (h : ∀ g cap w', OW w' base w'.heap.size (some ⟨g, 0, none⟩) (us ++ ws) g → w.grownBy w' v.ownBlock → N ≤ cap → K (ac.put d (.slice (some ⟨g, 0, none⟩) N cap)) w') :
    if Region.wanted o (yielded ops ac.tmps) = true then Oper.wp Try.prog o ac w K Q else E := by
  subst hd
  refine step_append_ways w hgd s x t ho ht base v us ws a n c hsv hxv hl hown hs hn hbase hv fun v' w' h1 h2 h3 h4 => ?_
  obtain ⟨g, cap, rfl, hc, how⟩ := h1.shape h3 (n := N) (by simp; omega)
  exact h g cap w' how h2 hc
theorem step_append_lies_d {P : Program} {w : World} {ops : Array Oper} {o : Oper} {a : Act} {K : Act → World → Prop} {Q : Exit → Act → World → Prop} {E : Prop} (hgd : o.guard = none) (s x : Operand) (t : TypeId)
    (ho : o.op = .call { callee := .builtin .append, args := #[s, x], argTypes := #[t, t] })
    (base : Nat) (e : TypeId) (i : TypeInfo) (z : Value) (size bytes : Nat) (ht : P.underlying t = some (.slice e)) (hi : P.info? e = some i) (hz : i.zero = some z)
    (hsize : i.size = size) (hby : i.bytes = bytes) (hzs : z.cells.size = size) (hsz : 0 < size)
    (v : Value) (n : Nat) (xs : List Value) (hs : a.eval s = v) (hown : w.ownsRow base e size v n xs)
    (ad : Addr) (m c : Nat) (news : List Value) (hx : a.eval x = .slice (some ad) m c) (hl : news.length = m * size) (hnews : ∀ j u, news[j]? = some u → w.cell? (ad.add j) = some u) (h1 : ∀ u ∈ news, u.oneCell' = true)
    (hm : 0 < m) (h63 : n + m ≤ maxLen) (hbytes : (n + m) * bytes ≤ 140737488355328) (hbase : base ≤ w.heap.size) (d : Option Nat) (hd : o.dst = d)
    (h : ∀ g cap w', w'.ownsRow base e size (.slice (some ⟨g, 0, none⟩) (n + m) cap) (n + m) (xs ++ news) → w.grownBy w' v.ownBlock → (v.ownBlock = some g ∨ g = w.heap.size) → g < w'.heap.size → K (a.put d (.slice (some ⟨g, 0, none⟩) (n + m) cap)) w') :
    if Region.wanted o (yielded ops a.tmps) = true then Oper.wp P o a w K Q else E := by
  subst hd
  exact step_append_lies w hgd s x t ho base e i z size bytes ht hi hz hsize hby hzs hsz v n xs hs hown ad m c news hx hl hnews h1 hm h63 hbytes hbase _ rfl h
end Go.Proofs.Ytmbpmhmehiiiaaa
