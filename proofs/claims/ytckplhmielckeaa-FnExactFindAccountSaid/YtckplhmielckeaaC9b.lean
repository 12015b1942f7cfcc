/-
  Contracts of chapter 9's origins, of the model.
-/
import Derived.Test.YtckplhmielckeaaC9
import Derived.Test.YtckplhmielckeaaM13
import Derived.Test.YtckplhmielckeaaC1F
import Derived.Test.YtckplhmielckeaaC1P
import Derived.Test.YtckplhmielckeaaBa
import Derived.Deep.RegionHeld3
import Derived.Deep.RegionLaw
namespace Go.Proofs.Ytckplhmielckeaa.C9b
open Go.ChangeShapes Go.WideShapes Go.ChangeAt Go.RowKit
open S0 S9 Dm Fx M12 M13 C9
set_option linter.unusedVariables false
theorem specHostB (s : ByteArray) (w : World) (hs : s.size ≤ 4294967296) : Calls Try.prog 23 #[.string s] w (Gives (.bool (host (bts s))) w) := specHost s w hs
end Go.Proofs.Ytckplhmielckeaa.C9b
