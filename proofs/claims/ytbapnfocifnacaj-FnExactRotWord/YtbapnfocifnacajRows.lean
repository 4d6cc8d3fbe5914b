/-
  No cell of these rows narrows 'for every input' (looked for: loops, veiled, ifaces, maps, wideKeys, modest, calm, conditions, laid).
  DERIVED. THE GIVEN ROWS OF THIS SEAT. 5 by the template 'for every input the law returns true; each argument reads behind the call as it read before'; 0 by the template 'total and deterministic' (their statements: YtbapnfocifnacajTotals.lean).
  GIVEN WITH THE SEED: the statements are not yours to turn. If you find one false, say at which input.
  Laid BY PROGRAM, IN A SANDBOX (cutbox-rows.mjs): the forced cells as the released guide's own fill.sh prints them over the translation 6103a75a46dc5e0c… (all of the seat's roots in one cut). By AI agents, Wed Nov 11 2026. No macro, syntax, notation, axiom, sorry.
-/
import Derived.Test.YtbapnfocifnacajChecked
import GoSem.Claim
import GoSem.ClaimJoined
import GoSem.ClaimMapViews
import Derived.JoinedTies
import Derived.KernelRfl
namespace Go.Proofs.Ytbapnfocifnacaj
/- THE CELL 'sum', in the pinned program and in every row, IS THE sha256 OF THE DUMP (.gsa) THAT YtbapnfocifnacajProg.lean LOADS. Nothing in Lean hashes anything: it is a label: what it is worth is what the hold of that sum in a sandbox is worth. -/
noncomputable def Try.pinned : Pinned := { name := "ytbapnfocifnacaj", sum := "6103a75a46dc5e0cfcc5e9136ed3b04cf113924eb7108b8511fedcc3675c223c", checked := Try.checked }
namespace Rows
def none {H : Type} : Left H := { results := [], args := [] }

/-- 'laws.FnExactAddWord': WHATEVER THE INPUT: true; the input reads as it did. -/
def fnExactAddWordSpec : ChangeSpec := { name := "fnExactAddWord", fn := fun _ => fun
  | [d1, d2] => { results := [.lit (.bool true)], args := [d1, d2] }
  | _ => none }
def fnExactAddWordRow : OpenClaim := { program := "ytbapnfocifnacaj", sum := "6103a75a46dc5e0cfcc5e9136ed3b04cf113924eb7108b8511fedcc3675c223c", func := "loop.example/g00076/laws.FnExactAddWord", spec := "fnExactAddWord", apart := false }
def FnExactAddWordSaid : Prop := fnExactAddWordRow.holds Try.pinned (OpenSpec.ofChange fnExactAddWordSpec)

/-- ITS FALSE NEIGHBOUR: 'it returns false'. Refute it at one input. -/
def fnExactAddWordWrong : ChangeSpec := { name := "fnExactAddWord", fn := fun _ => fun
  | [d1, d2] => { results := [.lit (.bool false)], args := [d1, d2] }
  | _ => none }
def FnExactAddWordWrongFalsely : Prop := fnExactAddWordRow.holds Try.pinned (OpenSpec.ofChange fnExactAddWordWrong)

/-- 'laws.FnExactSextWord': WHATEVER THE INPUT: true; the input reads as it did. -/
def fnExactSextWordSpec : ChangeSpec := { name := "fnExactSextWord", fn := fun _ => fun
  | [d1, d2] => { results := [.lit (.bool true)], args := [d1, d2] }
  | _ => none }
def fnExactSextWordRow : OpenClaim := { program := "ytbapnfocifnacaj", sum := "6103a75a46dc5e0cfcc5e9136ed3b04cf113924eb7108b8511fedcc3675c223c", func := "loop.example/g00076/laws.FnExactSextWord", spec := "fnExactSextWord", apart := false }
def FnExactSextWordSaid : Prop := fnExactSextWordRow.holds Try.pinned (OpenSpec.ofChange fnExactSextWordSpec)

/-- ITS FALSE NEIGHBOUR: 'it returns false'. Refute it at one input. -/
def fnExactSextWordWrong : ChangeSpec := { name := "fnExactSextWord", fn := fun _ => fun
  | [d1, d2] => { results := [.lit (.bool false)], args := [d1, d2] }
  | _ => none }
def FnExactSextWordWrongFalsely : Prop := fnExactSextWordRow.holds Try.pinned (OpenSpec.ofChange fnExactSextWordWrong)

/-- 'laws.FnExactSarWord': WHATEVER THE INPUT: true; the input reads as it did. -/
def fnExactSarWordSpec : ChangeSpec := { name := "fnExactSarWord", fn := fun _ => fun
  | [d1, d2] => { results := [.lit (.bool true)], args := [d1, d2] }
  | _ => none }
def fnExactSarWordRow : OpenClaim := { program := "ytbapnfocifnacaj", sum := "6103a75a46dc5e0cfcc5e9136ed3b04cf113924eb7108b8511fedcc3675c223c", func := "loop.example/g00076/laws.FnExactSarWord", spec := "fnExactSarWord", apart := false }
def FnExactSarWordSaid : Prop := fnExactSarWordRow.holds Try.pinned (OpenSpec.ofChange fnExactSarWordSpec)

/-- ITS FALSE NEIGHBOUR: 'it returns false'. Refute it at one input. -/
def fnExactSarWordWrong : ChangeSpec := { name := "fnExactSarWord", fn := fun _ => fun
  | [d1, d2] => { results := [.lit (.bool false)], args := [d1, d2] }
  | _ => none }
def FnExactSarWordWrongFalsely : Prop := fnExactSarWordRow.holds Try.pinned (OpenSpec.ofChange fnExactSarWordWrong)

/-- 'laws.FnExactRotWord': WHATEVER THE INPUT: true; the input reads as it did. -/
def fnExactRotWordSpec : ChangeSpec := { name := "fnExactRotWord", fn := fun _ => fun
  | [d1, d2] => { results := [.lit (.bool true)], args := [d1, d2] }
  | _ => none }
def fnExactRotWordRow : OpenClaim := { program := "ytbapnfocifnacaj", sum := "6103a75a46dc5e0cfcc5e9136ed3b04cf113924eb7108b8511fedcc3675c223c", func := "loop.example/g00076/laws.FnExactRotWord", spec := "fnExactRotWord", apart := false }
def FnExactRotWordSaid : Prop := fnExactRotWordRow.holds Try.pinned (OpenSpec.ofChange fnExactRotWordSpec)

/-- ITS FALSE NEIGHBOUR: 'it returns false'. Refute it at one input. -/
def fnExactRotWordWrong : ChangeSpec := { name := "fnExactRotWord", fn := fun _ => fun
  | [d1, d2] => { results := [.lit (.bool false)], args := [d1, d2] }
  | _ => none }
def FnExactRotWordWrongFalsely : Prop := fnExactRotWordRow.holds Try.pinned (OpenSpec.ofChange fnExactRotWordWrong)

/-- 'laws.FnExactLessWord': WHATEVER THE INPUT: true; the input reads as it did. -/
def fnExactLessWordSpec : ChangeSpec := { name := "fnExactLessWord", fn := fun _ => fun
  | [d1, d2] => { results := [.lit (.bool true)], args := [d1, d2] }
  | _ => none }
def fnExactLessWordRow : OpenClaim := { program := "ytbapnfocifnacaj", sum := "6103a75a46dc5e0cfcc5e9136ed3b04cf113924eb7108b8511fedcc3675c223c", func := "loop.example/g00076/laws.FnExactLessWord", spec := "fnExactLessWord", apart := false }
def FnExactLessWordSaid : Prop := fnExactLessWordRow.holds Try.pinned (OpenSpec.ofChange fnExactLessWordSpec)

/-- ITS FALSE NEIGHBOUR: 'it returns false'. Refute it at one input. -/
def fnExactLessWordWrong : ChangeSpec := { name := "fnExactLessWord", fn := fun _ => fun
  | [d1, d2] => { results := [.lit (.bool false)], args := [d1, d2] }
  | _ => none }
def FnExactLessWordWrongFalsely : Prop := fnExactLessWordRow.holds Try.pinned (OpenSpec.ofChange fnExactLessWordWrong)

/- THE SECOND FORM. 'bulk': how many values and letters a reading holds, each counted each time it is reached (what is shared counts as often as it is met; a slice's spare places count too). A statement '..UptoSaid' is the law's where the arguments, and the package variables that the reading takes, are together of bulk at most 1048576: NARROWER than '..Said'. Prove '..Said' where nothing that the law and all that it calls make is longer than what came in: it says more and counts as full. Else prove '..UptoSaid'. A law counts once. -/
mutual
def uptoBulk {H : Type} : DataW H → Nat
  | .lit (.string bytes) => bytes.length + 1
  | .lit _ => 1
  | .nil => 1
  | .ptr d => uptoBulk d + 1
  | .slice elems spare => uptoBulkAll elems + uptoBulkAll spare + 1
  | .agg parts => uptoBulkAll parts + 1
  | .iface _ d => uptoBulk d + 1
  | .map entries => uptoBulkEntries entries + 1
  | .held _ => 1
def uptoBulkAll {H : Type} : List (DataW H) → Nat
  | [] => 0
  | d :: r => uptoBulk d + uptoBulkAll r
def uptoBulkEntries {H : Type} : List (Lit × DataW H) → Nat
  | [] => 0
  | x :: r => uptoBulkEntry x + uptoBulkEntries r
def uptoBulkEntry {H : Type} : Lit × DataW H → Nat
  | (.string bytes, d) => bytes.length + uptoBulk d + 1
  | (_, d) => uptoBulk d + 1
 end
def uptoSmall : (H : Type) → List (DataW H) → Bool := fun _ ds => decide (uptoBulkAll ds ≤ 1048576)
def OpenSpec.upto (s : _root_.Go.ChangeSpec) : _root_.Go.OpenSpec := { _root_.Go.OpenSpec.ofChange s with cond := some uptoSmall }

/-- 'laws.FnExactAddWord', WHERE WHAT IT READS IS OF BULK AT MOST 1048576: true; the input reads as it did. -/
def fnExactAddWordUptoRow : OpenClaim := { program := "ytbapnfocifnacaj", sum := "6103a75a46dc5e0cfcc5e9136ed3b04cf113924eb7108b8511fedcc3675c223c", func := "loop.example/g00076/laws.FnExactAddWord", spec := "fnExactAddWord", apart := false, narrowed := true }
def FnExactAddWordUptoSaid : Prop := fnExactAddWordUptoRow.holds Try.pinned (OpenSpec.upto fnExactAddWordSpec)

/-- 'laws.FnExactSextWord', WHERE WHAT IT READS IS OF BULK AT MOST 1048576: true; the input reads as it did. -/
def fnExactSextWordUptoRow : OpenClaim := { program := "ytbapnfocifnacaj", sum := "6103a75a46dc5e0cfcc5e9136ed3b04cf113924eb7108b8511fedcc3675c223c", func := "loop.example/g00076/laws.FnExactSextWord", spec := "fnExactSextWord", apart := false, narrowed := true }
def FnExactSextWordUptoSaid : Prop := fnExactSextWordUptoRow.holds Try.pinned (OpenSpec.upto fnExactSextWordSpec)

/-- 'laws.FnExactSarWord', WHERE WHAT IT READS IS OF BULK AT MOST 1048576: true; the input reads as it did. -/
def fnExactSarWordUptoRow : OpenClaim := { program := "ytbapnfocifnacaj", sum := "6103a75a46dc5e0cfcc5e9136ed3b04cf113924eb7108b8511fedcc3675c223c", func := "loop.example/g00076/laws.FnExactSarWord", spec := "fnExactSarWord", apart := false, narrowed := true }
def FnExactSarWordUptoSaid : Prop := fnExactSarWordUptoRow.holds Try.pinned (OpenSpec.upto fnExactSarWordSpec)

/-- 'laws.FnExactRotWord', WHERE WHAT IT READS IS OF BULK AT MOST 1048576: true; the input reads as it did. -/
def fnExactRotWordUptoRow : OpenClaim := { program := "ytbapnfocifnacaj", sum := "6103a75a46dc5e0cfcc5e9136ed3b04cf113924eb7108b8511fedcc3675c223c", func := "loop.example/g00076/laws.FnExactRotWord", spec := "fnExactRotWord", apart := false, narrowed := true }
def FnExactRotWordUptoSaid : Prop := fnExactRotWordUptoRow.holds Try.pinned (OpenSpec.upto fnExactRotWordSpec)

/-- 'laws.FnExactLessWord', WHERE WHAT IT READS IS OF BULK AT MOST 1048576: true; the input reads as it did. -/
def fnExactLessWordUptoRow : OpenClaim := { program := "ytbapnfocifnacaj", sum := "6103a75a46dc5e0cfcc5e9136ed3b04cf113924eb7108b8511fedcc3675c223c", func := "loop.example/g00076/laws.FnExactLessWord", spec := "fnExactLessWord", apart := false, narrowed := true }
def FnExactLessWordUptoSaid : Prop := fnExactLessWordUptoRow.holds Try.pinned (OpenSpec.upto fnExactLessWordSpec)

end Rows
end Go.Proofs.Ytbapnfocifnacaj
