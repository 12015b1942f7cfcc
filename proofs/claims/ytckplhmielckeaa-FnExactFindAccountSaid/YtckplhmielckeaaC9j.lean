/-
  Contracts of chapter 9's hosts and origins, of the program.
-/
import Derived.Test.YtckplhmielckeaaC9b
import Derived.Test.YtckplhmielckeaaC9h
import Derived.Test.YtckplhmielckeaaM13i
import Derived.Deep.RegionHeld3
import Derived.Deep.RegionLaw
namespace Go.Proofs.Ytckplhmielckeaa.C9j
open Go.ChangeShapes Go.WideShapes Go.ChangeAt Go.RowKit
open S0 S9 Dm Fx M12 M13 C9
set_option linter.unusedVariables false
set_option linter.unusedSimpArgs false
theorem implHost (s : ByteArray) (w : World) (hs : s.size ≤ 4294967296) : Calls Try.prog 90 #[.string s] w (Gives (.bool (host (bts s))) w) := C9h.implHost s w hs
end Go.Proofs.Ytckplhmielckeaa.C9j
