/-
  slices.Concat of two slices, slices.Grow of nil, at numbers.
-/
import Derived.Test.YtogoppknimpkbaaBa
import Derived.Lib.AppendZerosOnto
import Derived.Handy
namespace Go.Proofs.Ytogoppknimpkbaa.Cc
open Go.ChangeShapes Go.WideShapes Go.ChangeAt Go.RowKit
open S0 S1
set_option linter.unusedVariables false
set_option maxRecDepth 100000
theorem zero_len (z : Value) (hz : z.cells.size = 1) (k : Nat) : (Builtin.zeroCells z.cells k).size = k := by
  simp [Builtin.zeroCells, hz]
end Go.Proofs.Ytogoppknimpkbaa.Cc
