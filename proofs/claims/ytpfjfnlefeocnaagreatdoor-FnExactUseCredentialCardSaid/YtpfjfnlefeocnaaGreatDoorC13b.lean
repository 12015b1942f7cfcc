import Derived.Test.YtpfjfnlefeocnaaGreatDoorC13
import Derived.Test.YtpfjfnlefeocnaaGreatDoorBb
/-
  Contracts of chapter 13's made assertions, of the model.
-/
namespace Go.Proofs.YtpfjfnlefeocnaaGreatDoor.C13b
open Go.ChangeShapes Go.WideShapes Go.ChangeAt Go.RowKit
open S0 S1 S9 Dm Fx M3 M8 M12 M13 C3 C6 C9 C10 C13m C13
set_option linter.unusedVariables false
set_option linter.unusedSimpArgs false
set_option maxRecDepth 100000
noncomputable def a0 (o : Fx.Origin) (z : ByteArray) (k ch : Int) (p : Bool) : Fx.Assertion := ⟨z, str (fmtO o), ch, k, p, 0, 0⟩
/-- What making an assertion gives: a store, an assertion, whether. -/
def mkV (y : Fx.KeyStore) (a : Fx.Assertion) (b : Bool) : Value := .tuple #[.agg #[.int .i64 y.Vendor, .int .i64 y.Serial, .int .i64 y.Seed, .int .i64 y.Counter], .agg #[.string a.Site, .string a.Origin, .int .i64 a.Challenge, .int .i64 a.Handle, .bool a.Present, .int .i64 a.Counter, .int .i64 a.Signature], .bool b]
end Go.Proofs.YtpfjfnlefeocnaaGreatDoor.C13b
