import Derived.Test.YtpfjfnlefeocnaaGreatDoorYCredential
import Derived.Test.YtpfjfnlefeocnaaGreatDoorYAccount
import Derived.Test.YtpfjfnlefeocnaaGreatDoorYKeyStore
import Derived.Test.YtpfjfnlefeocnaaGreatDoorYOrigin
import Derived.Test.YtpfjfnlefeocnaaGreatDoorYAssertion
import Derived.Test.YtpfjfnlefeocnaaGreatDoorEb
namespace Go.Proofs.YtpfjfnlefeocnaaGreatDoor.Das
open Go.ChangeShapes Go.WideShapes Go.ChangeAt Go.RowKit
open S0 S1 S9 Dm Fx E1 E18
set_option linter.unusedVariables false
set_option maxRecDepth 100000
def dasCredential (x : Fx.Credential) : List Da := [dI x.Handle, dI x.Public, dI x.Counter, dB x.Cut]
def zCredential : Fx.Credential := ⟨0, 0, 0, false⟩
theorem dasCredential_dc (x : Fx.Credential) : (dasCredential x).map Da.dc = x.dcs := rfl
def dasAccount (x : Fx.Account) : List Da := [dI x.Id, dI x.Minimum, rowR 59 4 dasCredential zCredential x.Credentials]
theorem dasAccount_dc (x : Fx.Account) : (dasAccount x).map Da.dc = x.dcs := by
  show [Dc.val (.int .i64 x.Id), Dc.val (.int .i64 x.Minimum), (rowR 59 4 dasCredential zCredential x.Credentials).dc] = x.dcs
  rw [rowR_dc 59 zCredential Fx.Credential.len dasCredential_dc]
  rfl
def dasAssertion (x : Fx.Assertion) : List Da := [dS x.Site, dS x.Origin, dI x.Challenge, dI x.Handle, dB x.Present, dI x.Counter, dI x.Signature]
theorem dasAssertion_dc (x : Fx.Assertion) : (dasAssertion x).map Da.dc = x.dcs := rfl
end Go.Proofs.YtpfjfnlefeocnaaGreatDoor.Das
