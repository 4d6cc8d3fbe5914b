/-
  No cell of these rows narrows 'for every input' (looked for: loops, veiled, ifaces, maps, wideKeys, modest, calm, conditions, laid).
  DERIVED. THE GIVEN ROWS OF THIS SEAT. 5 by the template 'for every input the law returns true; each argument reads behind the call as it read before'; 0 by the template 'total and deterministic' (their statements: YtbapnfocifnacakTotals.lean).
  GIVEN WITH THE SEED: the statements are not yours to turn. If you find one false, say at which input.
  Laid BY PROGRAM, IN A SANDBOX (cutbox-rows.mjs): the forced cells as the released guide's own fill.sh prints them over the translation d8ede8fadee35fa4… (all of the seat's roots in one cut). By AI agents, Wed Nov 11 2026. No macro, syntax, notation, axiom, sorry.
-/
import Derived.Test.YtbapnfocifnacakChecked
import GoSem.Claim
import GoSem.ClaimJoined
import GoSem.ClaimMapViews
import Derived.JoinedTies
import Derived.KernelRfl
namespace Go.Proofs.Ytbapnfocifnacak
/- THE CELL 'sum', in the pinned program and in every row, IS THE sha256 OF THE DUMP (.gsa) THAT YtbapnfocifnacakProg.lean LOADS. Nothing in Lean hashes anything: it is a label: what it is worth is what the hold of that sum in a sandbox is worth. -/
noncomputable def Try.pinned : Pinned := { name := "ytbapnfocifnacak", sum := "d8ede8fadee35fa443b03f23796744fd1b883a060d3db60ca8d750b6f45bf443", checked := Try.checked }
namespace Rows
def none {H : Type} : Left H := { results := [], args := [] }

/-- 'laws.FnExactBytesOf': WHATEVER THE INPUT: true; the input reads as it did. -/
def fnExactBytesOfSpec : ChangeSpec := { name := "fnExactBytesOf", fn := fun _ => fun
  | [d] => { results := [.lit (.bool true)], args := [d] }
  | _ => none }
def fnExactBytesOfRow : OpenClaim := { program := "ytbapnfocifnacak", sum := "d8ede8fadee35fa443b03f23796744fd1b883a060d3db60ca8d750b6f45bf443", func := "loop.example/g00076/laws.FnExactBytesOf", spec := "fnExactBytesOf", apart := false }
def FnExactBytesOfSaid : Prop := fnExactBytesOfRow.holds Try.pinned (OpenSpec.ofChange fnExactBytesOfSpec)

/-- ITS FALSE NEIGHBOUR: 'it returns false'. Refute it at one input. -/
def fnExactBytesOfWrong : ChangeSpec := { name := "fnExactBytesOf", fn := fun _ => fun
  | [d] => { results := [.lit (.bool false)], args := [d] }
  | _ => none }
def FnExactBytesOfWrongFalsely : Prop := fnExactBytesOfRow.holds Try.pinned (OpenSpec.ofChange fnExactBytesOfWrong)

/-- 'laws.FnExactWordOf': WHATEVER THE INPUT: true; the input reads as it did. -/
def fnExactWordOfSpec : ChangeSpec := { name := "fnExactWordOf", fn := fun _ => fun
  | [d] => { results := [.lit (.bool true)], args := [d] }
  | _ => none }
def fnExactWordOfRow : OpenClaim := { program := "ytbapnfocifnacak", sum := "d8ede8fadee35fa443b03f23796744fd1b883a060d3db60ca8d750b6f45bf443", func := "loop.example/g00076/laws.FnExactWordOf", spec := "fnExactWordOf", apart := false }
def FnExactWordOfSaid : Prop := fnExactWordOfRow.holds Try.pinned (OpenSpec.ofChange fnExactWordOfSpec)

/-- ITS FALSE NEIGHBOUR: 'it returns false'. Refute it at one input. -/
def fnExactWordOfWrong : ChangeSpec := { name := "fnExactWordOf", fn := fun _ => fun
  | [d] => { results := [.lit (.bool false)], args := [d] }
  | _ => none }
def FnExactWordOfWrongFalsely : Prop := fnExactWordOfRow.holds Try.pinned (OpenSpec.ofChange fnExactWordOfWrong)

/-- 'laws.FnExactFoldWords': WHATEVER THE INPUT: true; the input reads as it did. -/
def fnExactFoldWordsSpec : ChangeSpec := { name := "fnExactFoldWords", fn := fun _ => fun
  | [d] => { results := [.lit (.bool true)], args := [d] }
  | _ => none }
def fnExactFoldWordsRow : OpenClaim := { program := "ytbapnfocifnacak", sum := "d8ede8fadee35fa443b03f23796744fd1b883a060d3db60ca8d750b6f45bf443", func := "loop.example/g00076/laws.FnExactFoldWords", spec := "fnExactFoldWords", apart := false }
def FnExactFoldWordsSaid : Prop := fnExactFoldWordsRow.holds Try.pinned (OpenSpec.ofChange fnExactFoldWordsSpec)

/-- ITS FALSE NEIGHBOUR: 'it returns false'. Refute it at one input. -/
def fnExactFoldWordsWrong : ChangeSpec := { name := "fnExactFoldWords", fn := fun _ => fun
  | [d] => { results := [.lit (.bool false)], args := [d] }
  | _ => none }
def FnExactFoldWordsWrongFalsely : Prop := fnExactFoldWordsRow.holds Try.pinned (OpenSpec.ofChange fnExactFoldWordsWrong)

/-- 'laws.FnExactHexWord': WHATEVER THE INPUT: true; the input reads as it did. -/
def fnExactHexWordSpec : ChangeSpec := { name := "fnExactHexWord", fn := fun _ => fun
  | [d] => { results := [.lit (.bool true)], args := [d] }
  | _ => none }
def fnExactHexWordRow : OpenClaim := { program := "ytbapnfocifnacak", sum := "d8ede8fadee35fa443b03f23796744fd1b883a060d3db60ca8d750b6f45bf443", func := "loop.example/g00076/laws.FnExactHexWord", spec := "fnExactHexWord", apart := false }
def FnExactHexWordSaid : Prop := fnExactHexWordRow.holds Try.pinned (OpenSpec.ofChange fnExactHexWordSpec)

/-- ITS FALSE NEIGHBOUR: 'it returns false'. Refute it at one input. -/
def fnExactHexWordWrong : ChangeSpec := { name := "fnExactHexWord", fn := fun _ => fun
  | [d] => { results := [.lit (.bool false)], args := [d] }
  | _ => none }
def FnExactHexWordWrongFalsely : Prop := fnExactHexWordRow.holds Try.pinned (OpenSpec.ofChange fnExactHexWordWrong)

/-- 'laws.FnExactWordHex': WHATEVER THE INPUT: true; the input reads as it did. -/
def fnExactWordHexSpec : ChangeSpec := { name := "fnExactWordHex", fn := fun _ => fun
  | [d] => { results := [.lit (.bool true)], args := [d] }
  | _ => none }
def fnExactWordHexRow : OpenClaim := { program := "ytbapnfocifnacak", sum := "d8ede8fadee35fa443b03f23796744fd1b883a060d3db60ca8d750b6f45bf443", func := "loop.example/g00076/laws.FnExactWordHex", spec := "fnExactWordHex", apart := false }
def FnExactWordHexSaid : Prop := fnExactWordHexRow.holds Try.pinned (OpenSpec.ofChange fnExactWordHexSpec)

/-- ITS FALSE NEIGHBOUR: 'it returns false'. Refute it at one input. -/
def fnExactWordHexWrong : ChangeSpec := { name := "fnExactWordHex", fn := fun _ => fun
  | [d] => { results := [.lit (.bool false)], args := [d] }
  | _ => none }
def FnExactWordHexWrongFalsely : Prop := fnExactWordHexRow.holds Try.pinned (OpenSpec.ofChange fnExactWordHexWrong)

/- THE SECOND FORM. 'bulk': how many values and letters a reading holds, each counted each time it is reached (what is shared counts as often as it is met; a slice's spare places count too). A statement '..UptoSaid' is the law's where the arguments, and the package variables that the reading takes, are together of bulk at most 1048576: NARROWER than '..Said'. Prove '..Said' where nothing that the law and all that it calls make is longer than what came in: it says more and counts as full. Else prove '..UptoSaid'. A law counts once. -/
mutual
def uptoBulk {H : Type} : DataW H → Nat
  | .lit (.string bytes) => bytes.length + 1
  | .lit _ => 1
  | .nil => 1
  | .ptr d => uptoBulk d + 1
  | .slice elems spare => uptoBulkAll elems + uptoBulkAll spare + 1
  | .agg parts => uptoBulkAll parts + 1
  | .iface _ d => uptoBulk d + 1
  | .map entries => uptoBulkEntries entries + 1
  | .held _ => 1
def uptoBulkAll {H : Type} : List (DataW H) → Nat
  | [] => 0
  | d :: r => uptoBulk d + uptoBulkAll r
def uptoBulkEntries {H : Type} : List (Lit × DataW H) → Nat
  | [] => 0
  | x :: r => uptoBulkEntry x + uptoBulkEntries r
def uptoBulkEntry {H : Type} : Lit × DataW H → Nat
  | (.string bytes, d) => bytes.length + uptoBulk d + 1
  | (_, d) => uptoBulk d + 1
 end
def uptoSmall : (H : Type) → List (DataW H) → Bool := fun _ ds => decide (uptoBulkAll ds ≤ 1048576)
def OpenSpec.upto (s : _root_.Go.ChangeSpec) : _root_.Go.OpenSpec := { _root_.Go.OpenSpec.ofChange s with cond := some uptoSmall }

/-- 'laws.FnExactBytesOf', WHERE WHAT IT READS IS OF BULK AT MOST 1048576: true; the input reads as it did. -/
def fnExactBytesOfUptoRow : OpenClaim := { program := "ytbapnfocifnacak", sum := "d8ede8fadee35fa443b03f23796744fd1b883a060d3db60ca8d750b6f45bf443", func := "loop.example/g00076/laws.FnExactBytesOf", spec := "fnExactBytesOf", apart := false, narrowed := true }
def FnExactBytesOfUptoSaid : Prop := fnExactBytesOfUptoRow.holds Try.pinned (OpenSpec.upto fnExactBytesOfSpec)

/-- 'laws.FnExactWordOf', WHERE WHAT IT READS IS OF BULK AT MOST 1048576: true; the input reads as it did. -/
def fnExactWordOfUptoRow : OpenClaim := { program := "ytbapnfocifnacak", sum := "d8ede8fadee35fa443b03f23796744fd1b883a060d3db60ca8d750b6f45bf443", func := "loop.example/g00076/laws.FnExactWordOf", spec := "fnExactWordOf", apart := false, narrowed := true }
def FnExactWordOfUptoSaid : Prop := fnExactWordOfUptoRow.holds Try.pinned (OpenSpec.upto fnExactWordOfSpec)

/-- 'laws.FnExactFoldWords', WHERE WHAT IT READS IS OF BULK AT MOST 1048576: true; the input reads as it did. -/
def fnExactFoldWordsUptoRow : OpenClaim := { program := "ytbapnfocifnacak", sum := "d8ede8fadee35fa443b03f23796744fd1b883a060d3db60ca8d750b6f45bf443", func := "loop.example/g00076/laws.FnExactFoldWords", spec := "fnExactFoldWords", apart := false, narrowed := true }
def FnExactFoldWordsUptoSaid : Prop := fnExactFoldWordsUptoRow.holds Try.pinned (OpenSpec.upto fnExactFoldWordsSpec)

/-- 'laws.FnExactHexWord', WHERE WHAT IT READS IS OF BULK AT MOST 1048576: true; the input reads as it did. -/
def fnExactHexWordUptoRow : OpenClaim := { program := "ytbapnfocifnacak", sum := "d8ede8fadee35fa443b03f23796744fd1b883a060d3db60ca8d750b6f45bf443", func := "loop.example/g00076/laws.FnExactHexWord", spec := "fnExactHexWord", apart := false, narrowed := true }
def FnExactHexWordUptoSaid : Prop := fnExactHexWordUptoRow.holds Try.pinned (OpenSpec.upto fnExactHexWordSpec)

/-- 'laws.FnExactWordHex', WHERE WHAT IT READS IS OF BULK AT MOST 1048576: true; the input reads as it did. -/
def fnExactWordHexUptoRow : OpenClaim := { program := "ytbapnfocifnacak", sum := "d8ede8fadee35fa443b03f23796744fd1b883a060d3db60ca8d750b6f45bf443", func := "loop.example/g00076/laws.FnExactWordHex", spec := "fnExactWordHex", apart := false, narrowed := true }
def FnExactWordHexUptoSaid : Prop := fnExactWordHexUptoRow.holds Try.pinned (OpenSpec.upto fnExactWordHexSpec)

end Rows
end Go.Proofs.Ytbapnfocifnacak
