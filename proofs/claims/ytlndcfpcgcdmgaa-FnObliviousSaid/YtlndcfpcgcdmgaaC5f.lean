/-
  Contracts of chapter 5's shares, of the model.
-/
import Derived.Test.YtlndcfpcgcdmgaaM6
import Derived.Deep.AppendLies
namespace Go.Proofs.Ytlndcfpcgcdmgaa.C5f
open Go.ChangeShapes Go.WideShapes Go.ChangeAt Go.RowKit
open S0 S1 S3 C3 M4 M5 C5 C5b C5c C5d C5e M6
set_option linter.unusedVariables false
end Go.Proofs.Ytlndcfpcgcdmgaa.C5f
