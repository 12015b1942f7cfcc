/-
  Contracts of chapter 5's shares, of the model: MissingShare.
-/
import Derived.Test.YtlndcfpcgcdmgaaC5g
namespace Go.Proofs.Ytlndcfpcgcdmgaa.C5h
open Go.ChangeShapes Go.WideShapes Go.ChangeAt Go.RowKit
open S0 S1 S3 C3 M4 M5 C5 C5b C5c C5d C5e C5f C5g M6
set_option linter.unusedVariables false
end Go.Proofs.Ytlndcfpcgcdmgaa.C5h
