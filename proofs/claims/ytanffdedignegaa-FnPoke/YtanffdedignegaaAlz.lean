
/-
  What the core's arithmetic and its branches come to, the specification's and the program's own: the same at every op and every two words. No conditions but that the arguments are values of their types.
-/
import Derived.Test.YtanffdedignegaaBas
import Derived.Test.YtanffdedignegaaProg
import Derived.Test.YtanffdedignegaaWrd
namespace Go.Proofs.Ytanffdedignegaa
open Go.ChangeShapes Go.WideShapes Go.ChangeAt Go.RowKit
set_option linter.unusedVariables false

def takenF (op a b : Int) : Bool := if op = 19 then decide (a = b) else if op = 20 then !decide (a = b) else if op = 21 then decide (wrap32 a < wrap32 b) else false
theorem op_beq {op c : Int} (h : op = c) : (op == c) = true := by simp [h]
theorem op_bne {op c : Int} (h : ¬ op = c) : (op == c) = false := beq_eq_false_iff_ne.2 h
theorem beq_dec (a b : Int) : (a == b) = decide (a = b) := by
  by_cases h : a = b
  · simp [h]
  · simp [h]
/-- What an op of two registers comes to: the word, and what stands against it. -/
def aluF (op a b : Int) : Int × Int :=
  if op = 1 then ((a + b) % 4294967296, 0) else if op = 2 then ((a - b) % 4294967296, 0) else if op = 3 then (bits .and .u32 a b, 0) else if op = 4 then (bits .or .u32 a b, 0)
  else if op = 5 then (bits .xor .u32 a b, 0) else if op = 6 then (a * 2 ^ (b % 32).toNat % 4294967296, 0) else if op = 7 then (a / 2 ^ (b % 32).toNat, 0) else if op = 8 then ((Wd.sar a.toNat (b % 32).toNat : Int), 0)
  else if op = 9 then (a * b % 4294967296, 0) else if op = 10 then (if b = 0 then (0, 5) else (a / b, 0)) else if op = 11 then ((if wrap32 a < wrap32 b then 1 else 0), 0) else if op = 12 then ((if a < b then 1 else 0), 0) else (0, 4)
theorem ret_wf {a b c d : Int} (h : (a, c) = (b, d)) : Ending.returned (.tuple #[.int .u32 a, .int .i64 c]) = .returned (.tuple #[.int .u32 b, .int .i64 d]) := by cases h; rfl
end Go.Proofs.Ytanffdedignegaa
