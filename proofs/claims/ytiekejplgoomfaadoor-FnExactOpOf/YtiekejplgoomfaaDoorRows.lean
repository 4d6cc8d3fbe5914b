/-
  NARROWER THAN 'FOR EVERY INPUT', by the rows' own cells (each row's printed sentence says how): FnExactFormOf: laid · FnExactInstrOk: laid · FnExactEncode: laid · FnExactDecode: laid · FnExactOpName: laid · FnExactOpOf: laid.
  DERIVED. THE GIVEN ROWS OF THIS SEAT. 6 by the template 'for every input the law returns true; each argument reads behind the call as it read before'; 0 by the template 'total and deterministic' (their statements: YtiekejplgoomfaaDoorTotals.lean).
  GIVEN WITH THE SEED: the statements are not yours to turn. If you find one false, say at which input.
  Laid BY PROGRAM, IN A SANDBOX (cutbox-rows.mjs): the forced cells as the released guide's own fill.sh prints them over the translation 2c1fa7dbabd52d00… (all of the seat's roots in one cut). By AI agents, Wed Nov 11 2026. No macro, syntax, notation, axiom, sorry.
-/
import Derived.Test.YtiekejplgoomfaaDoorChecked
import GoSem.Claim
import GoSem.ClaimJoined
import GoSem.ClaimMapViews
import Derived.JoinedTies
import Derived.KernelRfl
namespace Go.Proofs.YtiekejplgoomfaaDoor
/- THE CELL 'sum', in the pinned program and in every row, IS THE sha256 OF THE DUMP (.gsa) THAT YtiekejplgoomfaaDoorProg.lean LOADS. Nothing in Lean hashes anything: it is a label: what it is worth is what the hold of that sum in a sandbox is worth. -/
noncomputable def Tryd.pinned : Pinned := { name := "ytiekejplgoomfaadoor", sum := "2c1fa7dbabd52d0083e25fc90c267386c479dfc3f0992e2cc56f6fa4a33342e3", checked := Tryd.checked }
namespace Rows
def none {H : Type} : Left H := { results := [], args := [] }

/- WHAT THE LISTED PACKAGE-LEVEL VARIABLES READ AS WHEN THE CALL BEGINS. Each datum BY PROGRAM (the guide's laid-datum.mjs) off the statement by which the dump's own 'gosem.cut.vars' lays the variable. In a bare row this is a premise. The card (YtiekejplgoomfaaDoorCards.lean) ties it to the program's text. -/
def laid_loop_example_g00076_impl_opForms {H : Type} : DataW H := .agg [.lit (.int .i64 0), .lit (.int .i64 7), .lit (.int .i64 7), .lit (.int .i64 7), .lit (.int .i64 7), .lit (.int .i64 7), .lit (.int .i64 7), .lit (.int .i64 7), .lit (.int .i64 7), .lit (.int .i64 7), .lit (.int .i64 7), .lit (.int .i64 7), .lit (.int .i64 7), .lit (.int .i64 11), .lit (.int .i64 9), .lit (.int .i64 11), .lit (.int .i64 11), .lit (.int .i64 11), .lit (.int .i64 11), .lit (.int .i64 11), .lit (.int .i64 11), .lit (.int .i64 11), .lit (.int .i64 9), .lit (.int .i64 10), .lit (.int .i64 1), .lit (.int .i64 11), .lit (.int .i64 11), .lit (.int .i64 11), .lit (.int .i64 9), .lit (.int .i64 9), .lit (.int .i64 0), .lit (.int .i64 0), .lit (.int .i64 8)]
def laid_loop_example_g00076_impl_opNames {H : Type} : DataW H := .agg [.lit (.string [110, 111, 112]), .lit (.string [97, 100, 100]), .lit (.string [115, 117, 98]), .lit (.string [97, 110, 100]), .lit (.string [111, 114]), .lit (.string [120, 111, 114]), .lit (.string [115, 104, 108]), .lit (.string [115, 104, 114]), .lit (.string [115, 97, 114]), .lit (.string [109, 117, 108]), .lit (.string [100, 105, 118]), .lit (.string [115, 108, 116]), .lit (.string [115, 108, 116, 117]), .lit (.string [97, 100, 100, 105]), .lit (.string [108, 117, 105]), .lit (.string [108, 119]), .lit (.string [115, 119]), .lit (.string [108, 98]), .lit (.string [115, 98]), .lit (.string [98, 101, 113]), .lit (.string [98, 110, 101]), .lit (.string [98, 108, 116]), .lit (.string [106, 97, 108]), .lit (.string [106, 114]), .lit (.string [114, 100, 99]), .lit (.string [115, 101, 110, 100]), .lit (.string [114, 101, 99, 118]), .lit (.string [114, 100, 101, 118]), .lit (.string [99, 115, 114, 114]), .lit (.string [99, 115, 114, 119]), .lit (.string [105, 114, 101, 116]), .lit (.string [121, 105, 101, 108, 100]), .lit (.string [116, 114, 97, 112])]

/-- 'laws.FnExactFormOf': WHATEVER THE INPUT: true; the input reads as it did. -/
def fnExactFormOfSpec : ChangeSpec := { name := "fnExactFormOf", vars := ["loop.example/g00076/impl.opForms"], fn := fun _ => fun
  | [d, g1] => { results := [.lit (.bool true)], args := [d], vars := [g1] }
  | _ => none }
def fnExactFormOfRow : OpenClaim := { program := "ytiekejplgoomfaadoor", sum := "2c1fa7dbabd52d0083e25fc90c267386c479dfc3f0992e2cc56f6fa4a33342e3", func := "loop.example/g00076/laws.FnExactFormOf", spec := "fnExactFormOf", named := ["loop.example/g00076/impl.opForms"], apart := false, laid := [("loop.example/g00076/impl.opForms", laid_loop_example_g00076_impl_opForms)] }
def FnExactFormOfSaid : Prop := fnExactFormOfRow.holds Tryd.pinned (OpenSpec.ofChange fnExactFormOfSpec)

/-- ITS FALSE NEIGHBOUR: 'it returns false'. Refute it at one input. -/
def fnExactFormOfWrong : ChangeSpec := { name := "fnExactFormOf", vars := ["loop.example/g00076/impl.opForms"], fn := fun _ => fun
  | [d, g1] => { results := [.lit (.bool false)], args := [d], vars := [g1] }
  | _ => none }
def FnExactFormOfWrongFalsely : Prop := fnExactFormOfRow.holds Tryd.pinned (OpenSpec.ofChange fnExactFormOfWrong)

/-- 'laws.FnExactInstrOk': WHATEVER THE INPUT: true; the input reads as it did. -/
def fnExactInstrOkSpec : ChangeSpec := { name := "fnExactInstrOk", vars := ["loop.example/g00076/impl.opForms"], fn := fun _ => fun
  | [d, g1] => { results := [.lit (.bool true)], args := [d], vars := [g1] }
  | _ => none }
def fnExactInstrOkRow : OpenClaim := { program := "ytiekejplgoomfaadoor", sum := "2c1fa7dbabd52d0083e25fc90c267386c479dfc3f0992e2cc56f6fa4a33342e3", func := "loop.example/g00076/laws.FnExactInstrOk", spec := "fnExactInstrOk", named := ["loop.example/g00076/impl.opForms"], apart := false, laid := [("loop.example/g00076/impl.opForms", laid_loop_example_g00076_impl_opForms)] }
def FnExactInstrOkSaid : Prop := fnExactInstrOkRow.holds Tryd.pinned (OpenSpec.ofChange fnExactInstrOkSpec)

/-- ITS FALSE NEIGHBOUR: 'it returns false'. Refute it at one input. -/
def fnExactInstrOkWrong : ChangeSpec := { name := "fnExactInstrOk", vars := ["loop.example/g00076/impl.opForms"], fn := fun _ => fun
  | [d, g1] => { results := [.lit (.bool false)], args := [d], vars := [g1] }
  | _ => none }
def FnExactInstrOkWrongFalsely : Prop := fnExactInstrOkRow.holds Tryd.pinned (OpenSpec.ofChange fnExactInstrOkWrong)

/-- 'laws.FnExactEncode': WHATEVER THE INPUT: true; the input reads as it did. -/
def fnExactEncodeSpec : ChangeSpec := { name := "fnExactEncode", vars := ["loop.example/g00076/impl.opForms"], fn := fun _ => fun
  | [d, g1] => { results := [.lit (.bool true)], args := [d], vars := [g1] }
  | _ => none }
def fnExactEncodeRow : OpenClaim := { program := "ytiekejplgoomfaadoor", sum := "2c1fa7dbabd52d0083e25fc90c267386c479dfc3f0992e2cc56f6fa4a33342e3", func := "loop.example/g00076/laws.FnExactEncode", spec := "fnExactEncode", named := ["loop.example/g00076/impl.opForms"], apart := false, laid := [("loop.example/g00076/impl.opForms", laid_loop_example_g00076_impl_opForms)] }
def FnExactEncodeSaid : Prop := fnExactEncodeRow.holds Tryd.pinned (OpenSpec.ofChange fnExactEncodeSpec)

/-- ITS FALSE NEIGHBOUR: 'it returns false'. Refute it at one input. -/
def fnExactEncodeWrong : ChangeSpec := { name := "fnExactEncode", vars := ["loop.example/g00076/impl.opForms"], fn := fun _ => fun
  | [d, g1] => { results := [.lit (.bool false)], args := [d], vars := [g1] }
  | _ => none }
def FnExactEncodeWrongFalsely : Prop := fnExactEncodeRow.holds Tryd.pinned (OpenSpec.ofChange fnExactEncodeWrong)

/-- 'laws.FnExactDecode': WHATEVER THE INPUT: true; the input reads as it did. -/
def fnExactDecodeSpec : ChangeSpec := { name := "fnExactDecode", vars := ["loop.example/g00076/impl.opForms"], fn := fun _ => fun
  | [d, g1] => { results := [.lit (.bool true)], args := [d], vars := [g1] }
  | _ => none }
def fnExactDecodeRow : OpenClaim := { program := "ytiekejplgoomfaadoor", sum := "2c1fa7dbabd52d0083e25fc90c267386c479dfc3f0992e2cc56f6fa4a33342e3", func := "loop.example/g00076/laws.FnExactDecode", spec := "fnExactDecode", named := ["loop.example/g00076/impl.opForms"], apart := false, laid := [("loop.example/g00076/impl.opForms", laid_loop_example_g00076_impl_opForms)] }
def FnExactDecodeSaid : Prop := fnExactDecodeRow.holds Tryd.pinned (OpenSpec.ofChange fnExactDecodeSpec)

/-- ITS FALSE NEIGHBOUR: 'it returns false'. Refute it at one input. -/
def fnExactDecodeWrong : ChangeSpec := { name := "fnExactDecode", vars := ["loop.example/g00076/impl.opForms"], fn := fun _ => fun
  | [d, g1] => { results := [.lit (.bool false)], args := [d], vars := [g1] }
  | _ => none }
def FnExactDecodeWrongFalsely : Prop := fnExactDecodeRow.holds Tryd.pinned (OpenSpec.ofChange fnExactDecodeWrong)

/-- 'laws.FnExactOpName': WHATEVER THE INPUT: true; the input reads as it did. -/
def fnExactOpNameSpec : ChangeSpec := { name := "fnExactOpName", vars := ["loop.example/g00076/impl.opNames"], fn := fun _ => fun
  | [d, g1] => { results := [.lit (.bool true)], args := [d], vars := [g1] }
  | _ => none }
def fnExactOpNameRow : OpenClaim := { program := "ytiekejplgoomfaadoor", sum := "2c1fa7dbabd52d0083e25fc90c267386c479dfc3f0992e2cc56f6fa4a33342e3", func := "loop.example/g00076/laws.FnExactOpName", spec := "fnExactOpName", named := ["loop.example/g00076/impl.opNames"], apart := false, laid := [("loop.example/g00076/impl.opNames", laid_loop_example_g00076_impl_opNames)] }
def FnExactOpNameSaid : Prop := fnExactOpNameRow.holds Tryd.pinned (OpenSpec.ofChange fnExactOpNameSpec)

/-- ITS FALSE NEIGHBOUR: 'it returns false'. Refute it at one input. -/
def fnExactOpNameWrong : ChangeSpec := { name := "fnExactOpName", vars := ["loop.example/g00076/impl.opNames"], fn := fun _ => fun
  | [d, g1] => { results := [.lit (.bool false)], args := [d], vars := [g1] }
  | _ => none }
def FnExactOpNameWrongFalsely : Prop := fnExactOpNameRow.holds Tryd.pinned (OpenSpec.ofChange fnExactOpNameWrong)

/-- 'laws.FnExactOpOf': WHATEVER THE INPUT: true; the input reads as it did. -/
def fnExactOpOfSpec : ChangeSpec := { name := "fnExactOpOf", vars := ["loop.example/g00076/impl.opNames"], fn := fun _ => fun
  | [d, g1] => { results := [.lit (.bool true)], args := [d], vars := [g1] }
  | _ => none }
def fnExactOpOfRow : OpenClaim := { program := "ytiekejplgoomfaadoor", sum := "2c1fa7dbabd52d0083e25fc90c267386c479dfc3f0992e2cc56f6fa4a33342e3", func := "loop.example/g00076/laws.FnExactOpOf", spec := "fnExactOpOf", named := ["loop.example/g00076/impl.opNames"], apart := false, laid := [("loop.example/g00076/impl.opNames", laid_loop_example_g00076_impl_opNames)] }
def FnExactOpOfSaid : Prop := fnExactOpOfRow.holds Tryd.pinned (OpenSpec.ofChange fnExactOpOfSpec)

/-- ITS FALSE NEIGHBOUR: 'it returns false'. Refute it at one input. -/
def fnExactOpOfWrong : ChangeSpec := { name := "fnExactOpOf", vars := ["loop.example/g00076/impl.opNames"], fn := fun _ => fun
  | [d, g1] => { results := [.lit (.bool false)], args := [d], vars := [g1] }
  | _ => none }
def FnExactOpOfWrongFalsely : Prop := fnExactOpOfRow.holds Tryd.pinned (OpenSpec.ofChange fnExactOpOfWrong)

/- THE SECOND FORM. 'bulk': how many values and letters a reading holds, each counted each time it is reached (what is shared counts as often as it is met; a slice's spare places count too). A statement '..UptoSaid' is the law's where the arguments, and the package variables that the reading takes, are together of bulk at most 1048576: NARROWER than '..Said'. Prove '..Said' where nothing that the law and all that it calls make is longer than what came in: it says more and counts as full. Else prove '..UptoSaid'. A law counts once. -/
mutual
def uptoBulk {H : Type} : DataW H → Nat
  | .lit (.string bytes) => bytes.length + 1
  | .lit _ => 1
  | .nil => 1
  | .ptr d => uptoBulk d + 1
  | .slice elems spare => uptoBulkAll elems + uptoBulkAll spare + 1
  | .agg parts => uptoBulkAll parts + 1
  | .iface _ d => uptoBulk d + 1
  | .map entries => uptoBulkEntries entries + 1
  | .held _ => 1
def uptoBulkAll {H : Type} : List (DataW H) → Nat
  | [] => 0
  | d :: r => uptoBulk d + uptoBulkAll r
def uptoBulkEntries {H : Type} : List (Lit × DataW H) → Nat
  | [] => 0
  | x :: r => uptoBulkEntry x + uptoBulkEntries r
def uptoBulkEntry {H : Type} : Lit × DataW H → Nat
  | (.string bytes, d) => bytes.length + uptoBulk d + 1
  | (_, d) => uptoBulk d + 1
 end
def uptoSmall : (H : Type) → List (DataW H) → Bool := fun _ ds => decide (uptoBulkAll ds ≤ 1048576)
def OpenSpec.upto (s : _root_.Go.ChangeSpec) : _root_.Go.OpenSpec := { _root_.Go.OpenSpec.ofChange s with cond := some uptoSmall }

/-- 'laws.FnExactFormOf', WHERE WHAT IT READS IS OF BULK AT MOST 1048576: true; the input reads as it did. -/
def fnExactFormOfUptoRow : OpenClaim := { program := "ytiekejplgoomfaadoor", sum := "2c1fa7dbabd52d0083e25fc90c267386c479dfc3f0992e2cc56f6fa4a33342e3", func := "loop.example/g00076/laws.FnExactFormOf", spec := "fnExactFormOf", named := ["loop.example/g00076/impl.opForms"], apart := false, laid := [("loop.example/g00076/impl.opForms", laid_loop_example_g00076_impl_opForms)], narrowed := true }
def FnExactFormOfUptoSaid : Prop := fnExactFormOfUptoRow.holds Tryd.pinned (OpenSpec.upto fnExactFormOfSpec)

/-- 'laws.FnExactInstrOk', WHERE WHAT IT READS IS OF BULK AT MOST 1048576: true; the input reads as it did. -/
def fnExactInstrOkUptoRow : OpenClaim := { program := "ytiekejplgoomfaadoor", sum := "2c1fa7dbabd52d0083e25fc90c267386c479dfc3f0992e2cc56f6fa4a33342e3", func := "loop.example/g00076/laws.FnExactInstrOk", spec := "fnExactInstrOk", named := ["loop.example/g00076/impl.opForms"], apart := false, laid := [("loop.example/g00076/impl.opForms", laid_loop_example_g00076_impl_opForms)], narrowed := true }
def FnExactInstrOkUptoSaid : Prop := fnExactInstrOkUptoRow.holds Tryd.pinned (OpenSpec.upto fnExactInstrOkSpec)

/-- 'laws.FnExactEncode', WHERE WHAT IT READS IS OF BULK AT MOST 1048576: true; the input reads as it did. -/
def fnExactEncodeUptoRow : OpenClaim := { program := "ytiekejplgoomfaadoor", sum := "2c1fa7dbabd52d0083e25fc90c267386c479dfc3f0992e2cc56f6fa4a33342e3", func := "loop.example/g00076/laws.FnExactEncode", spec := "fnExactEncode", named := ["loop.example/g00076/impl.opForms"], apart := false, laid := [("loop.example/g00076/impl.opForms", laid_loop_example_g00076_impl_opForms)], narrowed := true }
def FnExactEncodeUptoSaid : Prop := fnExactEncodeUptoRow.holds Tryd.pinned (OpenSpec.upto fnExactEncodeSpec)

/-- 'laws.FnExactDecode', WHERE WHAT IT READS IS OF BULK AT MOST 1048576: true; the input reads as it did. -/
def fnExactDecodeUptoRow : OpenClaim := { program := "ytiekejplgoomfaadoor", sum := "2c1fa7dbabd52d0083e25fc90c267386c479dfc3f0992e2cc56f6fa4a33342e3", func := "loop.example/g00076/laws.FnExactDecode", spec := "fnExactDecode", named := ["loop.example/g00076/impl.opForms"], apart := false, laid := [("loop.example/g00076/impl.opForms", laid_loop_example_g00076_impl_opForms)], narrowed := true }
def FnExactDecodeUptoSaid : Prop := fnExactDecodeUptoRow.holds Tryd.pinned (OpenSpec.upto fnExactDecodeSpec)

/-- 'laws.FnExactOpName', WHERE WHAT IT READS IS OF BULK AT MOST 1048576: true; the input reads as it did. -/
def fnExactOpNameUptoRow : OpenClaim := { program := "ytiekejplgoomfaadoor", sum := "2c1fa7dbabd52d0083e25fc90c267386c479dfc3f0992e2cc56f6fa4a33342e3", func := "loop.example/g00076/laws.FnExactOpName", spec := "fnExactOpName", named := ["loop.example/g00076/impl.opNames"], apart := false, laid := [("loop.example/g00076/impl.opNames", laid_loop_example_g00076_impl_opNames)], narrowed := true }
def FnExactOpNameUptoSaid : Prop := fnExactOpNameUptoRow.holds Tryd.pinned (OpenSpec.upto fnExactOpNameSpec)

/-- 'laws.FnExactOpOf', WHERE WHAT IT READS IS OF BULK AT MOST 1048576: true; the input reads as it did. -/
def fnExactOpOfUptoRow : OpenClaim := { program := "ytiekejplgoomfaadoor", sum := "2c1fa7dbabd52d0083e25fc90c267386c479dfc3f0992e2cc56f6fa4a33342e3", func := "loop.example/g00076/laws.FnExactOpOf", spec := "fnExactOpOf", named := ["loop.example/g00076/impl.opNames"], apart := false, laid := [("loop.example/g00076/impl.opNames", laid_loop_example_g00076_impl_opNames)], narrowed := true }
def FnExactOpOfUptoSaid : Prop := fnExactOpOfUptoRow.holds Tryd.pinned (OpenSpec.upto fnExactOpOfSpec)

end Rows
end Go.Proofs.YtiekejplgoomfaaDoor
