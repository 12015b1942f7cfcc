import Derived.Test.YtmhjjocmnmeapaaGreatDoorBb
/-
  Credential: a struct of the laws as a thing of its own, and the laws' own functions over it.
-/
set_option linter.unusedVariables false
namespace Go.Proofs.YtmhjjocmnmeapaaGreatDoor.Fx
open Go.ChangeShapes Go.WideShapes Go.ChangeAt Go.RowKit Go.Deep
open S0 S1 S9 S10 Ty Dm Bx
structure Credential where
  Handle : Int
  Public : Int
  Counter : Int
  Cut : Bool
def Credential.dcs (x : Credential) : List Dc := [.val (.int .i64 x.Handle), .val (.int .i64 x.Public), .val (.int .i64 x.Counter), .val (.bool x.Cut)]
theorem Credential.len (x : Credential) : x.dcs.length = 4 := rfl
structure Credential.ok (x : Credential) : Prop where
  Handle : -9223372036854775808 ≤ x.Handle ∧ x.Handle ≤ 9223372036854775807
  Public : -9223372036854775808 ≤ x.Public ∧ x.Public ≤ 9223372036854775807
  Counter : -9223372036854775808 ≤ x.Counter ∧ x.Counter ≤ 9223372036854775807
  Cut : True
def CredentialsD (l : List Credential) : Dc := .row 49 4 l.length (l.flatMap Credential.dcs)
end Go.Proofs.YtmhjjocmnmeapaaGreatDoor.Fx
