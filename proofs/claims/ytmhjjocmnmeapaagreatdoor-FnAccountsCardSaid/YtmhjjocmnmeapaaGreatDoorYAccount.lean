import Derived.Test.YtmhjjocmnmeapaaGreatDoorBb
import Derived.Test.YtmhjjocmnmeapaaGreatDoorYCredential
/-
  Account: a struct of the laws as a thing of its own, and the laws' own functions over it.
-/
set_option linter.unusedVariables false
namespace Go.Proofs.YtmhjjocmnmeapaaGreatDoor.Fx
open Go.ChangeShapes Go.WideShapes Go.ChangeAt Go.RowKit Go.Deep
open S0 S1 S9 S10 Ty Dm Bx
structure Account where
  Id : Int
  Minimum : Int
  Credentials : List Fx.Credential
def Account.dcs (x : Account) : List Dc := [.val (.int .i64 x.Id), .val (.int .i64 x.Minimum), CredentialsD x.Credentials]
theorem Account.len (x : Account) : x.dcs.length = 3 := rfl
structure Account.ok (x : Account) : Prop where
  Id : -9223372036854775808 ≤ x.Id ∧ x.Id ≤ 9223372036854775807
  Minimum : -9223372036854775808 ≤ x.Minimum ∧ x.Minimum ≤ 9223372036854775807
  Credentials_n : x.Credentials.length ≤ maxLen
  Credentials : ∀ y ∈ x.Credentials, y.ok
end Go.Proofs.YtmhjjocmnmeapaaGreatDoor.Fx
