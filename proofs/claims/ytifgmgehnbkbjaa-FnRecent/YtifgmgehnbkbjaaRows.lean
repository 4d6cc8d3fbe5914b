/-
  No cell of these rows narrows 'for every input' (looked for: loops, veiled, ifaces, maps, wideKeys, modest, calm, conditions, laid).
  DERIVED. THE GIVEN ROWS OF THIS SEAT. 11 by the template 'for every input the law returns true; each argument reads behind the call as it read before'; 0 by the template 'total and deterministic' (their statements: YtifgmgehnbkbjaaTotals.lean).
  GIVEN WITH THE SEED: the statements are not yours to turn. If you find one false, say at which input.
  Laid BY PROGRAM, IN A SANDBOX (cutbox-rows.mjs): the forced cells as the released guide's own fill.sh prints them over the translation 98cac26bdbda33fd… (all of the seat's roots in one cut). By AI agents, Wed Nov 11 2026. No macro, syntax, notation, axiom, sorry.
-/
import Derived.Test.YtifgmgehnbkbjaaChecked
import GoSem.Claim
import GoSem.ClaimJoined
import GoSem.ClaimMapViews
import Derived.JoinedTies
import Derived.KernelRfl
namespace Go.Proofs.Ytifgmgehnbkbjaa
/- THE CELL 'sum', in the pinned program and in every row, IS THE sha256 OF THE DUMP (.gsa) THAT YtifgmgehnbkbjaaProg.lean LOADS. Nothing in Lean hashes anything: it is a label: what it is worth is what the hold of that sum in a sandbox is worth. -/
noncomputable def Try.pinned : Pinned := { name := "ytifgmgehnbkbjaa", sum := "98cac26bdbda33fd15c271d0a6ed679e2996130d2651885d51bd18c174023aa7", checked := Try.checked }
namespace Rows
def none {H : Type} : Left H := { results := [], args := [] }

/-- 'laws.FnRecent': WHATEVER THE INPUT: true; the input reads as it did. -/
def fnRecentSpec : ChangeSpec := { name := "fnRecent", fn := fun _ => fun
  | [d] => { results := [.lit (.bool true)], args := [d] }
  | _ => none }
def fnRecentRow : OpenClaim := { program := "ytifgmgehnbkbjaa", sum := "98cac26bdbda33fd15c271d0a6ed679e2996130d2651885d51bd18c174023aa7", func := "loop.example/g00076/laws.FnRecent", spec := "fnRecent", unfollowed := true, recurses := true, apart := false }
def FnRecentSaid : Prop := fnRecentRow.holds Try.pinned (OpenSpec.ofChange fnRecentSpec)

/-- ITS FALSE NEIGHBOUR: 'it returns false'. Refute it at one input. -/
def fnRecentWrong : ChangeSpec := { name := "fnRecent", fn := fun _ => fun
  | [d] => { results := [.lit (.bool false)], args := [d] }
  | _ => none }
def FnRecentWrongFalsely : Prop := fnRecentRow.holds Try.pinned (OpenSpec.ofChange fnRecentWrong)

/-- 'laws.FnWays': WHATEVER THE INPUT: true; the input reads as it did. -/
def fnWaysSpec : ChangeSpec := { name := "fnWays", fn := fun _ => fun
  | [d] => { results := [.lit (.bool true)], args := [d] }
  | _ => none }
def fnWaysRow : OpenClaim := { program := "ytifgmgehnbkbjaa", sum := "98cac26bdbda33fd15c271d0a6ed679e2996130d2651885d51bd18c174023aa7", func := "loop.example/g00076/laws.FnWays", spec := "fnWays", unfollowed := true, recurses := true, apart := false }
def FnWaysSaid : Prop := fnWaysRow.holds Try.pinned (OpenSpec.ofChange fnWaysSpec)

/-- ITS FALSE NEIGHBOUR: 'it returns false'. Refute it at one input. -/
def fnWaysWrong : ChangeSpec := { name := "fnWays", fn := fun _ => fun
  | [d] => { results := [.lit (.bool false)], args := [d] }
  | _ => none }
def FnWaysWrongFalsely : Prop := fnWaysRow.holds Try.pinned (OpenSpec.ofChange fnWaysWrong)

/-- 'laws.FnExactShapeOk': WHATEVER THE INPUT: true; the input reads as it did. -/
def fnExactShapeOkSpec : ChangeSpec := { name := "fnExactShapeOk", fn := fun _ => fun
  | [d] => { results := [.lit (.bool true)], args := [d] }
  | _ => none }
def fnExactShapeOkRow : OpenClaim := { program := "ytifgmgehnbkbjaa", sum := "98cac26bdbda33fd15c271d0a6ed679e2996130d2651885d51bd18c174023aa7", func := "loop.example/g00076/laws.FnExactShapeOk", spec := "fnExactShapeOk", apart := false }
def FnExactShapeOkSaid : Prop := fnExactShapeOkRow.holds Try.pinned (OpenSpec.ofChange fnExactShapeOkSpec)

/-- ITS FALSE NEIGHBOUR: 'it returns false'. Refute it at one input. -/
def fnExactShapeOkWrong : ChangeSpec := { name := "fnExactShapeOk", fn := fun _ => fun
  | [d] => { results := [.lit (.bool false)], args := [d] }
  | _ => none }
def FnExactShapeOkWrongFalsely : Prop := fnExactShapeOkRow.holds Try.pinned (OpenSpec.ofChange fnExactShapeOkWrong)

/-- 'laws.FnExactCacheEmpty': WHATEVER THE INPUT: true; the input reads as it did. -/
def fnExactCacheEmptySpec : ChangeSpec := { name := "fnExactCacheEmpty", fn := fun _ => fun
  | [d] => { results := [.lit (.bool true)], args := [d] }
  | _ => none }
def fnExactCacheEmptyRow : OpenClaim := { program := "ytifgmgehnbkbjaa", sum := "98cac26bdbda33fd15c271d0a6ed679e2996130d2651885d51bd18c174023aa7", func := "loop.example/g00076/laws.FnExactCacheEmpty", spec := "fnExactCacheEmpty", apart := false }
def FnExactCacheEmptySaid : Prop := fnExactCacheEmptyRow.holds Try.pinned (OpenSpec.ofChange fnExactCacheEmptySpec)

/-- ITS FALSE NEIGHBOUR: 'it returns false'. Refute it at one input. -/
def fnExactCacheEmptyWrong : ChangeSpec := { name := "fnExactCacheEmpty", fn := fun _ => fun
  | [d] => { results := [.lit (.bool false)], args := [d] }
  | _ => none }
def FnExactCacheEmptyWrongFalsely : Prop := fnExactCacheEmptyRow.holds Try.pinned (OpenSpec.ofChange fnExactCacheEmptyWrong)

/-- 'laws.FnExactCacheOk': WHATEVER THE INPUT: true; the input reads as it did. -/
def fnExactCacheOkSpec : ChangeSpec := { name := "fnExactCacheOk", fn := fun _ => fun
  | [d] => { results := [.lit (.bool true)], args := [d] }
  | _ => none }
def fnExactCacheOkRow : OpenClaim := { program := "ytifgmgehnbkbjaa", sum := "98cac26bdbda33fd15c271d0a6ed679e2996130d2651885d51bd18c174023aa7", func := "loop.example/g00076/laws.FnExactCacheOk", spec := "fnExactCacheOk", unfollowed := true, recurses := true, apart := false }
def FnExactCacheOkSaid : Prop := fnExactCacheOkRow.holds Try.pinned (OpenSpec.ofChange fnExactCacheOkSpec)

/-- ITS FALSE NEIGHBOUR: 'it returns false'. Refute it at one input. -/
def fnExactCacheOkWrong : ChangeSpec := { name := "fnExactCacheOk", fn := fun _ => fun
  | [d] => { results := [.lit (.bool false)], args := [d] }
  | _ => none }
def FnExactCacheOkWrongFalsely : Prop := fnExactCacheOkRow.holds Try.pinned (OpenSpec.ofChange fnExactCacheOkWrong)

/-- 'laws.FnExactCacheUse': WHATEVER THE INPUT: true; the input reads as it did. -/
def fnExactCacheUseSpec : ChangeSpec := { name := "fnExactCacheUse", fn := fun _ => fun
  | [d1, d2, d3] => { results := [.lit (.bool true)], args := [d1, d2, d3] }
  | _ => none }
def fnExactCacheUseRow : OpenClaim := { program := "ytifgmgehnbkbjaa", sum := "98cac26bdbda33fd15c271d0a6ed679e2996130d2651885d51bd18c174023aa7", func := "loop.example/g00076/laws.FnExactCacheUse", spec := "fnExactCacheUse", unfollowed := true, recurses := true, apart := false }
def FnExactCacheUseSaid : Prop := fnExactCacheUseRow.holds Try.pinned (OpenSpec.ofChange fnExactCacheUseSpec)

/-- ITS FALSE NEIGHBOUR: 'it returns false'. Refute it at one input. -/
def fnExactCacheUseWrong : ChangeSpec := { name := "fnExactCacheUse", fn := fun _ => fun
  | [d1, d2, d3] => { results := [.lit (.bool false)], args := [d1, d2, d3] }
  | _ => none }
def FnExactCacheUseWrongFalsely : Prop := fnExactCacheUseRow.holds Try.pinned (OpenSpec.ofChange fnExactCacheUseWrong)

/-- 'laws.FnExactCacheFlush': WHATEVER THE INPUT: true; the input reads as it did. -/
def fnExactCacheFlushSpec : ChangeSpec := { name := "fnExactCacheFlush", fn := fun _ => fun
  | [d] => { results := [.lit (.bool true)], args := [d] }
  | _ => none }
def fnExactCacheFlushRow : OpenClaim := { program := "ytifgmgehnbkbjaa", sum := "98cac26bdbda33fd15c271d0a6ed679e2996130d2651885d51bd18c174023aa7", func := "loop.example/g00076/laws.FnExactCacheFlush", spec := "fnExactCacheFlush", unfollowed := true, recurses := true, apart := false }
def FnExactCacheFlushSaid : Prop := fnExactCacheFlushRow.holds Try.pinned (OpenSpec.ofChange fnExactCacheFlushSpec)

/-- ITS FALSE NEIGHBOUR: 'it returns false'. Refute it at one input. -/
def fnExactCacheFlushWrong : ChangeSpec := { name := "fnExactCacheFlush", fn := fun _ => fun
  | [d] => { results := [.lit (.bool false)], args := [d] }
  | _ => none }
def FnExactCacheFlushWrongFalsely : Prop := fnExactCacheFlushRow.holds Try.pinned (OpenSpec.ofChange fnExactCacheFlushWrong)

/-- 'laws.FnExactCacheLines': WHATEVER THE INPUT: true; the input reads as it did. -/
def fnExactCacheLinesSpec : ChangeSpec := { name := "fnExactCacheLines", fn := fun _ => fun
  | [d] => { results := [.lit (.bool true)], args := [d] }
  | _ => none }
def fnExactCacheLinesRow : OpenClaim := { program := "ytifgmgehnbkbjaa", sum := "98cac26bdbda33fd15c271d0a6ed679e2996130d2651885d51bd18c174023aa7", func := "loop.example/g00076/laws.FnExactCacheLines", spec := "fnExactCacheLines", unfollowed := true, recurses := true, apart := false }
def FnExactCacheLinesSaid : Prop := fnExactCacheLinesRow.holds Try.pinned (OpenSpec.ofChange fnExactCacheLinesSpec)

/-- ITS FALSE NEIGHBOUR: 'it returns false'. Refute it at one input. -/
def fnExactCacheLinesWrong : ChangeSpec := { name := "fnExactCacheLines", fn := fun _ => fun
  | [d] => { results := [.lit (.bool false)], args := [d] }
  | _ => none }
def FnExactCacheLinesWrongFalsely : Prop := fnExactCacheLinesRow.holds Try.pinned (OpenSpec.ofChange fnExactCacheLinesWrong)

/-- 'laws.FnExactCacheHolds': WHATEVER THE INPUT: true; the input reads as it did. -/
def fnExactCacheHoldsSpec : ChangeSpec := { name := "fnExactCacheHolds", fn := fun _ => fun
  | [d1, d2] => { results := [.lit (.bool true)], args := [d1, d2] }
  | _ => none }
def fnExactCacheHoldsRow : OpenClaim := { program := "ytifgmgehnbkbjaa", sum := "98cac26bdbda33fd15c271d0a6ed679e2996130d2651885d51bd18c174023aa7", func := "loop.example/g00076/laws.FnExactCacheHolds", spec := "fnExactCacheHolds", unfollowed := true, recurses := true, apart := false }
def FnExactCacheHoldsSaid : Prop := fnExactCacheHoldsRow.holds Try.pinned (OpenSpec.ofChange fnExactCacheHoldsSpec)

/-- ITS FALSE NEIGHBOUR: 'it returns false'. Refute it at one input. -/
def fnExactCacheHoldsWrong : ChangeSpec := { name := "fnExactCacheHolds", fn := fun _ => fun
  | [d1, d2] => { results := [.lit (.bool false)], args := [d1, d2] }
  | _ => none }
def FnExactCacheHoldsWrongFalsely : Prop := fnExactCacheHoldsRow.holds Try.pinned (OpenSpec.ofChange fnExactCacheHoldsWrong)

/-- 'laws.FnExactWorstDirty': WHATEVER THE INPUT: true; the input reads as it did. -/
def fnExactWorstDirtySpec : ChangeSpec := { name := "fnExactWorstDirty", fn := fun _ => fun
  | [d] => { results := [.lit (.bool true)], args := [d] }
  | _ => none }
def fnExactWorstDirtyRow : OpenClaim := { program := "ytifgmgehnbkbjaa", sum := "98cac26bdbda33fd15c271d0a6ed679e2996130d2651885d51bd18c174023aa7", func := "loop.example/g00076/laws.FnExactWorstDirty", spec := "fnExactWorstDirty", apart := false }
def FnExactWorstDirtySaid : Prop := fnExactWorstDirtyRow.holds Try.pinned (OpenSpec.ofChange fnExactWorstDirtySpec)

/-- ITS FALSE NEIGHBOUR: 'it returns false'. Refute it at one input. -/
def fnExactWorstDirtyWrong : ChangeSpec := { name := "fnExactWorstDirty", fn := fun _ => fun
  | [d] => { results := [.lit (.bool false)], args := [d] }
  | _ => none }
def FnExactWorstDirtyWrongFalsely : Prop := fnExactWorstDirtyRow.holds Try.pinned (OpenSpec.ofChange fnExactWorstDirtyWrong)

/-- 'laws.FnExactCacheRun': WHATEVER THE INPUT: true; the input reads as it did. -/
def fnExactCacheRunSpec : ChangeSpec := { name := "fnExactCacheRun", fn := fun _ => fun
  | [d1, d2] => { results := [.lit (.bool true)], args := [d1, d2] }
  | _ => none }
def fnExactCacheRunRow : OpenClaim := { program := "ytifgmgehnbkbjaa", sum := "98cac26bdbda33fd15c271d0a6ed679e2996130d2651885d51bd18c174023aa7", func := "loop.example/g00076/laws.FnExactCacheRun", spec := "fnExactCacheRun", unfollowed := true, recurses := true, apart := false }
def FnExactCacheRunSaid : Prop := fnExactCacheRunRow.holds Try.pinned (OpenSpec.ofChange fnExactCacheRunSpec)

/-- ITS FALSE NEIGHBOUR: 'it returns false'. Refute it at one input. -/
def fnExactCacheRunWrong : ChangeSpec := { name := "fnExactCacheRun", fn := fun _ => fun
  | [d1, d2] => { results := [.lit (.bool false)], args := [d1, d2] }
  | _ => none }
def FnExactCacheRunWrongFalsely : Prop := fnExactCacheRunRow.holds Try.pinned (OpenSpec.ofChange fnExactCacheRunWrong)

/- THE SECOND FORM. 'bulk': how many values and letters a reading holds, each counted each time it is reached (what is shared counts as often as it is met; a slice's spare places count too). A statement '..UptoSaid' is the law's where the arguments, and the package variables that the reading takes, are together of bulk at most 1048576: NARROWER than '..Said'. Prove '..Said' where nothing that the law and all that it calls make is longer than what came in: it says more and counts as full. Else prove '..UptoSaid'. A law counts once. -/
mutual
def uptoBulk {H : Type} : DataW H → Nat
  | .lit (.string bytes) => bytes.length + 1
  | .lit _ => 1
  | .nil => 1
  | .ptr d => uptoBulk d + 1
  | .slice elems spare => uptoBulkAll elems + uptoBulkAll spare + 1
  | .agg parts => uptoBulkAll parts + 1
  | .iface _ d => uptoBulk d + 1
  | .map entries => uptoBulkEntries entries + 1
  | .held _ => 1
def uptoBulkAll {H : Type} : List (DataW H) → Nat
  | [] => 0
  | d :: r => uptoBulk d + uptoBulkAll r
def uptoBulkEntries {H : Type} : List (Lit × DataW H) → Nat
  | [] => 0
  | x :: r => uptoBulkEntry x + uptoBulkEntries r
def uptoBulkEntry {H : Type} : Lit × DataW H → Nat
  | (.string bytes, d) => bytes.length + uptoBulk d + 1
  | (_, d) => uptoBulk d + 1
 end
def uptoSmall : (H : Type) → List (DataW H) → Bool := fun _ ds => decide (uptoBulkAll ds ≤ 1048576)
def OpenSpec.upto (s : _root_.Go.ChangeSpec) : _root_.Go.OpenSpec := { _root_.Go.OpenSpec.ofChange s with cond := some uptoSmall }

/-- 'laws.FnRecent', WHERE WHAT IT READS IS OF BULK AT MOST 1048576: true; the input reads as it did. -/
def fnRecentUptoRow : OpenClaim := { program := "ytifgmgehnbkbjaa", sum := "98cac26bdbda33fd15c271d0a6ed679e2996130d2651885d51bd18c174023aa7", func := "loop.example/g00076/laws.FnRecent", spec := "fnRecent", unfollowed := true, recurses := true, apart := false, narrowed := true }
def FnRecentUptoSaid : Prop := fnRecentUptoRow.holds Try.pinned (OpenSpec.upto fnRecentSpec)

/-- 'laws.FnWays', WHERE WHAT IT READS IS OF BULK AT MOST 1048576: true; the input reads as it did. -/
def fnWaysUptoRow : OpenClaim := { program := "ytifgmgehnbkbjaa", sum := "98cac26bdbda33fd15c271d0a6ed679e2996130d2651885d51bd18c174023aa7", func := "loop.example/g00076/laws.FnWays", spec := "fnWays", unfollowed := true, recurses := true, apart := false, narrowed := true }
def FnWaysUptoSaid : Prop := fnWaysUptoRow.holds Try.pinned (OpenSpec.upto fnWaysSpec)

/-- 'laws.FnExactShapeOk', WHERE WHAT IT READS IS OF BULK AT MOST 1048576: true; the input reads as it did. -/
def fnExactShapeOkUptoRow : OpenClaim := { program := "ytifgmgehnbkbjaa", sum := "98cac26bdbda33fd15c271d0a6ed679e2996130d2651885d51bd18c174023aa7", func := "loop.example/g00076/laws.FnExactShapeOk", spec := "fnExactShapeOk", apart := false, narrowed := true }
def FnExactShapeOkUptoSaid : Prop := fnExactShapeOkUptoRow.holds Try.pinned (OpenSpec.upto fnExactShapeOkSpec)

/-- 'laws.FnExactCacheEmpty', WHERE WHAT IT READS IS OF BULK AT MOST 1048576: true; the input reads as it did. -/
def fnExactCacheEmptyUptoRow : OpenClaim := { program := "ytifgmgehnbkbjaa", sum := "98cac26bdbda33fd15c271d0a6ed679e2996130d2651885d51bd18c174023aa7", func := "loop.example/g00076/laws.FnExactCacheEmpty", spec := "fnExactCacheEmpty", apart := false, narrowed := true }
def FnExactCacheEmptyUptoSaid : Prop := fnExactCacheEmptyUptoRow.holds Try.pinned (OpenSpec.upto fnExactCacheEmptySpec)

/-- 'laws.FnExactCacheOk', WHERE WHAT IT READS IS OF BULK AT MOST 1048576: true; the input reads as it did. -/
def fnExactCacheOkUptoRow : OpenClaim := { program := "ytifgmgehnbkbjaa", sum := "98cac26bdbda33fd15c271d0a6ed679e2996130d2651885d51bd18c174023aa7", func := "loop.example/g00076/laws.FnExactCacheOk", spec := "fnExactCacheOk", unfollowed := true, recurses := true, apart := false, narrowed := true }
def FnExactCacheOkUptoSaid : Prop := fnExactCacheOkUptoRow.holds Try.pinned (OpenSpec.upto fnExactCacheOkSpec)

/-- 'laws.FnExactCacheUse', WHERE WHAT IT READS IS OF BULK AT MOST 1048576: true; the input reads as it did. -/
def fnExactCacheUseUptoRow : OpenClaim := { program := "ytifgmgehnbkbjaa", sum := "98cac26bdbda33fd15c271d0a6ed679e2996130d2651885d51bd18c174023aa7", func := "loop.example/g00076/laws.FnExactCacheUse", spec := "fnExactCacheUse", unfollowed := true, recurses := true, apart := false, narrowed := true }
def FnExactCacheUseUptoSaid : Prop := fnExactCacheUseUptoRow.holds Try.pinned (OpenSpec.upto fnExactCacheUseSpec)

/-- 'laws.FnExactCacheFlush', WHERE WHAT IT READS IS OF BULK AT MOST 1048576: true; the input reads as it did. -/
def fnExactCacheFlushUptoRow : OpenClaim := { program := "ytifgmgehnbkbjaa", sum := "98cac26bdbda33fd15c271d0a6ed679e2996130d2651885d51bd18c174023aa7", func := "loop.example/g00076/laws.FnExactCacheFlush", spec := "fnExactCacheFlush", unfollowed := true, recurses := true, apart := false, narrowed := true }
def FnExactCacheFlushUptoSaid : Prop := fnExactCacheFlushUptoRow.holds Try.pinned (OpenSpec.upto fnExactCacheFlushSpec)

/-- 'laws.FnExactCacheLines', WHERE WHAT IT READS IS OF BULK AT MOST 1048576: true; the input reads as it did. -/
def fnExactCacheLinesUptoRow : OpenClaim := { program := "ytifgmgehnbkbjaa", sum := "98cac26bdbda33fd15c271d0a6ed679e2996130d2651885d51bd18c174023aa7", func := "loop.example/g00076/laws.FnExactCacheLines", spec := "fnExactCacheLines", unfollowed := true, recurses := true, apart := false, narrowed := true }
def FnExactCacheLinesUptoSaid : Prop := fnExactCacheLinesUptoRow.holds Try.pinned (OpenSpec.upto fnExactCacheLinesSpec)

/-- 'laws.FnExactCacheHolds', WHERE WHAT IT READS IS OF BULK AT MOST 1048576: true; the input reads as it did. -/
def fnExactCacheHoldsUptoRow : OpenClaim := { program := "ytifgmgehnbkbjaa", sum := "98cac26bdbda33fd15c271d0a6ed679e2996130d2651885d51bd18c174023aa7", func := "loop.example/g00076/laws.FnExactCacheHolds", spec := "fnExactCacheHolds", unfollowed := true, recurses := true, apart := false, narrowed := true }
def FnExactCacheHoldsUptoSaid : Prop := fnExactCacheHoldsUptoRow.holds Try.pinned (OpenSpec.upto fnExactCacheHoldsSpec)

/-- 'laws.FnExactWorstDirty', WHERE WHAT IT READS IS OF BULK AT MOST 1048576: true; the input reads as it did. -/
def fnExactWorstDirtyUptoRow : OpenClaim := { program := "ytifgmgehnbkbjaa", sum := "98cac26bdbda33fd15c271d0a6ed679e2996130d2651885d51bd18c174023aa7", func := "loop.example/g00076/laws.FnExactWorstDirty", spec := "fnExactWorstDirty", apart := false, narrowed := true }
def FnExactWorstDirtyUptoSaid : Prop := fnExactWorstDirtyUptoRow.holds Try.pinned (OpenSpec.upto fnExactWorstDirtySpec)

/-- 'laws.FnExactCacheRun', WHERE WHAT IT READS IS OF BULK AT MOST 1048576: true; the input reads as it did. -/
def fnExactCacheRunUptoRow : OpenClaim := { program := "ytifgmgehnbkbjaa", sum := "98cac26bdbda33fd15c271d0a6ed679e2996130d2651885d51bd18c174023aa7", func := "loop.example/g00076/laws.FnExactCacheRun", spec := "fnExactCacheRun", unfollowed := true, recurses := true, apart := false, narrowed := true }
def FnExactCacheRunUptoSaid : Prop := fnExactCacheRunUptoRow.holds Try.pinned (OpenSpec.upto fnExactCacheRunSpec)

end Rows
end Go.Proofs.Ytifgmgehnbkbjaa
