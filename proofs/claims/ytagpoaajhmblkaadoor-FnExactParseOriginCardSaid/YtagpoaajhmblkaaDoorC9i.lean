/-
  Contracts of chapter 9's origins, of the program.
-/
import Derived.Test.YtagpoaajhmblkaaDoorC9b
import Derived.Test.YtagpoaajhmblkaaDoorC9h
import Derived.Test.YtagpoaajhmblkaaDoorC9j
import Derived.Test.YtagpoaajhmblkaaDoorC9k
import Derived.Test.YtagpoaajhmblkaaDoorSx
import Derived.Test.YtagpoaajhmblkaaDoorC9c
import Derived.Deep.RegionHeld3
import Derived.Deep.RegionLaw
namespace Go.Proofs.YtagpoaajhmblkaaDoor.C9i
open Go.ChangeShapes Go.WideShapes Go.ChangeAt Go.RowKit
open S0 S9 Dm Fx M12 M13 C9
set_option linter.unusedVariables false
set_option linter.unusedSimpArgs false
theorem implHost (s : ByteArray) (w : World) (hs : s.size ≤ 4294967296) : Calls Tryd.prog 24 #[.string s] w (Gives (.bool (host (bts s))) w) := C9j.implHost s w hs
theorem implOrg (w : World) (x : Fx.Origin) (vs : List Value) (h : RdsL w w.heap.size x.dcs vs) (hs : x.Host.size ≤ 4294967296) : Calls Tryd.prog 14 #[.agg vs.toArray] w (Gives (.bool (orgB x)) w) := C9j.implOrg w x vs h hs
theorem implFmtO (w : World) (x : Fx.Origin) (vs : List Value) (h : RdsL w w.heap.size x.dcs vs) (hs : x.Host.size ≤ 4294967296) (ht : La.Pow w) : Calls Tryd.prog 8 #[.agg vs.toArray] w (Gives (.string (str (fmtO x))) w) := C9k.implFmtO w x vs h hs ht
theorem implPo (w : World) (s : ByteArray) (hs : s.size ≤ 4294967296) (ht : La.Pow w) (he : La.Errs w) : Calls Tryd.prog 10 #[.string s] w (MadeLx (poO (bts s)).dcs (fun vs => .tuple #[.agg vs.toArray, .bool (poB (bts s))]) w) := C9k.implPo w s hs ht he
end Go.Proofs.YtagpoaajhmblkaaDoor.C9i
