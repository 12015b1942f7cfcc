import Derived.Test.YtckplhmielckeabDoorC13m
import Derived.Test.YtckplhmielckeabDoorC9b
import Derived.Test.YtckplhmielckeabDoorC10b
/-
  Contracts of chapter 13's checked assertions, of the model.
-/
namespace Go.Proofs.YtckplhmielckeabDoor.C13
open Go.ChangeShapes Go.WideShapes Go.ChangeAt Go.RowKit
open S0 S1 S9 Dm Fx M3 M8 M12 M13 C3 C6 C9 C13m
set_option linter.unusedVariables false
set_option linter.unusedSimpArgs false
set_option maxRecDepth 100000
theorem org_rds (w : World) (hi : Nat) (o : Fx.Origin) : RdsL w hi o.dcs [.bool o.Secure, .string o.Host, .int .i64 o.Port] := Origin.mkR
end Go.Proofs.YtckplhmielckeabDoor.C13
