/-
  slices.Insert of one credential into an own row.
-/
import Derived.Test.YtogoppknimpkbaaBb
import Derived.Test.YtogoppknimpkbaaBa
import Derived.Test.YtogoppknimpkbaaEa
import Derived.Shelf.Spec.SlicesInsertGrow
import Derived.Lib.AppendZerosOnto
namespace Go.Proofs.Ytogoppknimpkbaa.In
open Go.ChangeShapes Go.WideShapes Go.ChangeAt Go.RowKit
open S0 S1 S9
set_option linter.unusedVariables false
set_option linter.unusedSimpArgs false
set_option maxRecDepth 100000
end Go.Proofs.Ytogoppknimpkbaa.In
