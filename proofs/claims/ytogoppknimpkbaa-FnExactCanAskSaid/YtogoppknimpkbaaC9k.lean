/-
  Contracts of chapter 9's texts of origins, of the program.
-/
import Derived.Test.YtogoppknimpkbaaC9j
import Derived.Test.YtogoppknimpkbaaSx
import Derived.Deep.RegionHeld3
import Derived.Deep.RegionLaw
namespace Go.Proofs.Ytogoppknimpkbaa.C9k
open Go.ChangeShapes Go.WideShapes Go.ChangeAt Go.RowKit
open S0 S9 Dm Fx M12 M13 C9
set_option linter.unusedVariables false
set_option linter.unusedSimpArgs false
end Go.Proofs.Ytogoppknimpkbaa.C9k
