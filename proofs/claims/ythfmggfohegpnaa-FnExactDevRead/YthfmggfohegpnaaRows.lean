/-
  No cell of these rows narrows 'for every input' (looked for: loops, veiled, ifaces, maps, wideKeys, modest, calm, conditions, laid).
  DERIVED. THE GIVEN ROWS OF THIS SEAT. 6 by the template 'for every input the law returns true; each argument reads behind the call as it read before'; 0 by the template 'total and deterministic' (their statements: YthfmggfohegpnaaTotals.lean).
  GIVEN WITH THE SEED: the statements are not yours to turn. If you find one false, say at which input.
  Laid BY PROGRAM, IN A SANDBOX (cutbox-rows.mjs): the forced cells as the released guide's own fill.sh prints them over the translation 5e600179dc411362… (all of the seat's roots in one cut). By AI agents, Wed Nov 11 2026. No macro, syntax, notation, axiom, sorry.
-/
import Derived.Test.YthfmggfohegpnaaChecked
import GoSem.Claim
import GoSem.ClaimJoined
import GoSem.ClaimMapViews
import Derived.JoinedTies
import Derived.KernelRfl
namespace Go.Proofs.Ythfmggfohegpnaa
/- THE CELL 'sum', in the pinned program and in every row, IS THE sha256 OF THE DUMP (.gsa) THAT YthfmggfohegpnaaProg.lean LOADS. Nothing in Lean hashes anything: it is a label: what it is worth is what the hold of that sum in a sandbox is worth. -/
noncomputable def Try.pinned : Pinned := { name := "ythfmggfohegpnaa", sum := "5e600179dc4113627d6ae6966aaf9f0fac1243f884e38e95ea2b22ea14048efd", checked := Try.checked }
namespace Rows
def none {H : Type} : Left H := { results := [], args := [] }

/-- 'laws.FnExactDevOk': WHATEVER THE INPUT: true; the input reads as it did. -/
def fnExactDevOkSpec : ChangeSpec := { name := "fnExactDevOk", fn := fun _ => fun
  | [d] => { results := [.lit (.bool true)], args := [d] }
  | _ => none }
def fnExactDevOkRow : OpenClaim := { program := "ythfmggfohegpnaa", sum := "5e600179dc4113627d6ae6966aaf9f0fac1243f884e38e95ea2b22ea14048efd", func := "loop.example/g00076/laws.FnExactDevOk", spec := "fnExactDevOk", apart := false }
def FnExactDevOkSaid : Prop := fnExactDevOkRow.holds Try.pinned (OpenSpec.ofChange fnExactDevOkSpec)

/-- ITS FALSE NEIGHBOUR: 'it returns false'. Refute it at one input. -/
def fnExactDevOkWrong : ChangeSpec := { name := "fnExactDevOk", fn := fun _ => fun
  | [d] => { results := [.lit (.bool false)], args := [d] }
  | _ => none }
def FnExactDevOkWrongFalsely : Prop := fnExactDevOkRow.holds Try.pinned (OpenSpec.ofChange fnExactDevOkWrong)

/-- 'laws.FnExactDevInput': WHATEVER THE INPUT: true; the input reads as it did. -/
def fnExactDevInputSpec : ChangeSpec := { name := "fnExactDevInput", fn := fun _ => fun
  | [d1, d2] => { results := [.lit (.bool true)], args := [d1, d2] }
  | _ => none }
def fnExactDevInputRow : OpenClaim := { program := "ythfmggfohegpnaa", sum := "5e600179dc4113627d6ae6966aaf9f0fac1243f884e38e95ea2b22ea14048efd", func := "loop.example/g00076/laws.FnExactDevInput", spec := "fnExactDevInput", apart := false }
def FnExactDevInputSaid : Prop := fnExactDevInputRow.holds Try.pinned (OpenSpec.ofChange fnExactDevInputSpec)

/-- ITS FALSE NEIGHBOUR: 'it returns false'. Refute it at one input. -/
def fnExactDevInputWrong : ChangeSpec := { name := "fnExactDevInput", fn := fun _ => fun
  | [d1, d2] => { results := [.lit (.bool false)], args := [d1, d2] }
  | _ => none }
def FnExactDevInputWrongFalsely : Prop := fnExactDevInputRow.holds Try.pinned (OpenSpec.ofChange fnExactDevInputWrong)

/-- 'laws.FnExactDevOpen': WHATEVER THE INPUT: true; the input reads as it did. -/
def fnExactDevOpenSpec : ChangeSpec := { name := "fnExactDevOpen", fn := fun _ => fun
  | [d] => { results := [.lit (.bool true)], args := [d] }
  | _ => none }
def fnExactDevOpenRow : OpenClaim := { program := "ythfmggfohegpnaa", sum := "5e600179dc4113627d6ae6966aaf9f0fac1243f884e38e95ea2b22ea14048efd", func := "loop.example/g00076/laws.FnExactDevOpen", spec := "fnExactDevOpen", apart := false }
def FnExactDevOpenSaid : Prop := fnExactDevOpenRow.holds Try.pinned (OpenSpec.ofChange fnExactDevOpenSpec)

/-- ITS FALSE NEIGHBOUR: 'it returns false'. Refute it at one input. -/
def fnExactDevOpenWrong : ChangeSpec := { name := "fnExactDevOpen", fn := fun _ => fun
  | [d] => { results := [.lit (.bool false)], args := [d] }
  | _ => none }
def FnExactDevOpenWrongFalsely : Prop := fnExactDevOpenRow.holds Try.pinned (OpenSpec.ofChange fnExactDevOpenWrong)

/-- 'laws.FnExactDevRead': WHATEVER THE INPUT: true; the input reads as it did. -/
def fnExactDevReadSpec : ChangeSpec := { name := "fnExactDevRead", fn := fun _ => fun
  | [d] => { results := [.lit (.bool true)], args := [d] }
  | _ => none }
def fnExactDevReadRow : OpenClaim := { program := "ythfmggfohegpnaa", sum := "5e600179dc4113627d6ae6966aaf9f0fac1243f884e38e95ea2b22ea14048efd", func := "loop.example/g00076/laws.FnExactDevRead", spec := "fnExactDevRead", apart := false }
def FnExactDevReadSaid : Prop := fnExactDevReadRow.holds Try.pinned (OpenSpec.ofChange fnExactDevReadSpec)

/-- ITS FALSE NEIGHBOUR: 'it returns false'. Refute it at one input. -/
def fnExactDevReadWrong : ChangeSpec := { name := "fnExactDevRead", fn := fun _ => fun
  | [d] => { results := [.lit (.bool false)], args := [d] }
  | _ => none }
def FnExactDevReadWrongFalsely : Prop := fnExactDevReadRow.holds Try.pinned (OpenSpec.ofChange fnExactDevReadWrong)

/-- 'laws.FnExactDevPlay': WHATEVER THE INPUT: true; the input reads as it did. -/
def fnExactDevPlaySpec : ChangeSpec := { name := "fnExactDevPlay", fn := fun _ => fun
  | [d] => { results := [.lit (.bool true)], args := [d] }
  | _ => none }
def fnExactDevPlayRow : OpenClaim := { program := "ythfmggfohegpnaa", sum := "5e600179dc4113627d6ae6966aaf9f0fac1243f884e38e95ea2b22ea14048efd", func := "loop.example/g00076/laws.FnExactDevPlay", spec := "fnExactDevPlay", unfollowed := true, recurses := true, apart := false }
def FnExactDevPlaySaid : Prop := fnExactDevPlayRow.holds Try.pinned (OpenSpec.ofChange fnExactDevPlaySpec)

/-- ITS FALSE NEIGHBOUR: 'it returns false'. Refute it at one input. -/
def fnExactDevPlayWrong : ChangeSpec := { name := "fnExactDevPlay", fn := fun _ => fun
  | [d] => { results := [.lit (.bool false)], args := [d] }
  | _ => none }
def FnExactDevPlayWrongFalsely : Prop := fnExactDevPlayRow.holds Try.pinned (OpenSpec.ofChange fnExactDevPlayWrong)

/-- 'laws.FnDevice': WHATEVER THE INPUT: true; the input reads as it did. -/
def fnDeviceSpec : ChangeSpec := { name := "fnDevice", fn := fun _ => fun
  | [d] => { results := [.lit (.bool true)], args := [d] }
  | _ => none }
def fnDeviceRow : OpenClaim := { program := "ythfmggfohegpnaa", sum := "5e600179dc4113627d6ae6966aaf9f0fac1243f884e38e95ea2b22ea14048efd", func := "loop.example/g00076/laws.FnDevice", spec := "fnDevice", unfollowed := true, recurses := true, apart := false }
def FnDeviceSaid : Prop := fnDeviceRow.holds Try.pinned (OpenSpec.ofChange fnDeviceSpec)

/-- ITS FALSE NEIGHBOUR: 'it returns false'. Refute it at one input. -/
def fnDeviceWrong : ChangeSpec := { name := "fnDevice", fn := fun _ => fun
  | [d] => { results := [.lit (.bool false)], args := [d] }
  | _ => none }
def FnDeviceWrongFalsely : Prop := fnDeviceRow.holds Try.pinned (OpenSpec.ofChange fnDeviceWrong)

/- THE SECOND FORM. 'bulk': how many values and letters a reading holds, each counted each time it is reached (what is shared counts as often as it is met; a slice's spare places count too). A statement '..UptoSaid' is the law's where the arguments, and the package variables that the reading takes, are together of bulk at most 1048576: NARROWER than '..Said'. Prove '..Said' where nothing that the law and all that it calls make is longer than what came in: it says more and counts as full. Else prove '..UptoSaid'. A law counts once. -/
mutual
def uptoBulk {H : Type} : DataW H → Nat
  | .lit (.string bytes) => bytes.length + 1
  | .lit _ => 1
  | .nil => 1
  | .ptr d => uptoBulk d + 1
  | .slice elems spare => uptoBulkAll elems + uptoBulkAll spare + 1
  | .agg parts => uptoBulkAll parts + 1
  | .iface _ d => uptoBulk d + 1
  | .map entries => uptoBulkEntries entries + 1
  | .held _ => 1
def uptoBulkAll {H : Type} : List (DataW H) → Nat
  | [] => 0
  | d :: r => uptoBulk d + uptoBulkAll r
def uptoBulkEntries {H : Type} : List (Lit × DataW H) → Nat
  | [] => 0
  | x :: r => uptoBulkEntry x + uptoBulkEntries r
def uptoBulkEntry {H : Type} : Lit × DataW H → Nat
  | (.string bytes, d) => bytes.length + uptoBulk d + 1
  | (_, d) => uptoBulk d + 1
 end
def uptoSmall : (H : Type) → List (DataW H) → Bool := fun _ ds => decide (uptoBulkAll ds ≤ 1048576)
def OpenSpec.upto (s : _root_.Go.ChangeSpec) : _root_.Go.OpenSpec := { _root_.Go.OpenSpec.ofChange s with cond := some uptoSmall }

/-- 'laws.FnExactDevOk', WHERE WHAT IT READS IS OF BULK AT MOST 1048576: true; the input reads as it did. -/
def fnExactDevOkUptoRow : OpenClaim := { program := "ythfmggfohegpnaa", sum := "5e600179dc4113627d6ae6966aaf9f0fac1243f884e38e95ea2b22ea14048efd", func := "loop.example/g00076/laws.FnExactDevOk", spec := "fnExactDevOk", apart := false, narrowed := true }
def FnExactDevOkUptoSaid : Prop := fnExactDevOkUptoRow.holds Try.pinned (OpenSpec.upto fnExactDevOkSpec)

/-- 'laws.FnExactDevInput', WHERE WHAT IT READS IS OF BULK AT MOST 1048576: true; the input reads as it did. -/
def fnExactDevInputUptoRow : OpenClaim := { program := "ythfmggfohegpnaa", sum := "5e600179dc4113627d6ae6966aaf9f0fac1243f884e38e95ea2b22ea14048efd", func := "loop.example/g00076/laws.FnExactDevInput", spec := "fnExactDevInput", apart := false, narrowed := true }
def FnExactDevInputUptoSaid : Prop := fnExactDevInputUptoRow.holds Try.pinned (OpenSpec.upto fnExactDevInputSpec)

/-- 'laws.FnExactDevOpen', WHERE WHAT IT READS IS OF BULK AT MOST 1048576: true; the input reads as it did. -/
def fnExactDevOpenUptoRow : OpenClaim := { program := "ythfmggfohegpnaa", sum := "5e600179dc4113627d6ae6966aaf9f0fac1243f884e38e95ea2b22ea14048efd", func := "loop.example/g00076/laws.FnExactDevOpen", spec := "fnExactDevOpen", apart := false, narrowed := true }
def FnExactDevOpenUptoSaid : Prop := fnExactDevOpenUptoRow.holds Try.pinned (OpenSpec.upto fnExactDevOpenSpec)

/-- 'laws.FnExactDevRead', WHERE WHAT IT READS IS OF BULK AT MOST 1048576: true; the input reads as it did. -/
def fnExactDevReadUptoRow : OpenClaim := { program := "ythfmggfohegpnaa", sum := "5e600179dc4113627d6ae6966aaf9f0fac1243f884e38e95ea2b22ea14048efd", func := "loop.example/g00076/laws.FnExactDevRead", spec := "fnExactDevRead", apart := false, narrowed := true }
def FnExactDevReadUptoSaid : Prop := fnExactDevReadUptoRow.holds Try.pinned (OpenSpec.upto fnExactDevReadSpec)

/-- 'laws.FnExactDevPlay', WHERE WHAT IT READS IS OF BULK AT MOST 1048576: true; the input reads as it did. -/
def fnExactDevPlayUptoRow : OpenClaim := { program := "ythfmggfohegpnaa", sum := "5e600179dc4113627d6ae6966aaf9f0fac1243f884e38e95ea2b22ea14048efd", func := "loop.example/g00076/laws.FnExactDevPlay", spec := "fnExactDevPlay", unfollowed := true, recurses := true, apart := false, narrowed := true }
def FnExactDevPlayUptoSaid : Prop := fnExactDevPlayUptoRow.holds Try.pinned (OpenSpec.upto fnExactDevPlaySpec)

/-- 'laws.FnDevice', WHERE WHAT IT READS IS OF BULK AT MOST 1048576: true; the input reads as it did. -/
def fnDeviceUptoRow : OpenClaim := { program := "ythfmggfohegpnaa", sum := "5e600179dc4113627d6ae6966aaf9f0fac1243f884e38e95ea2b22ea14048efd", func := "loop.example/g00076/laws.FnDevice", spec := "fnDevice", unfollowed := true, recurses := true, apart := false, narrowed := true }
def FnDeviceUptoSaid : Prop := fnDeviceUptoRow.holds Try.pinned (OpenSpec.upto fnDeviceSpec)

end Rows
end Go.Proofs.Ythfmggfohegpnaa
