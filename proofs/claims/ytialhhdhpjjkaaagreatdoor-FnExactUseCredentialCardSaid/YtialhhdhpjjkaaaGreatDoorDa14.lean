import Derived.Test.YtialhhdhpjjkaaaGreatDoorYCredential
import Derived.Test.YtialhhdhpjjkaaaGreatDoorYAccount
import Derived.Test.YtialhhdhpjjkaaaGreatDoorYKeyStore
import Derived.Test.YtialhhdhpjjkaaaGreatDoorYOrigin
import Derived.Test.YtialhhdhpjjkaaaGreatDoorYAssertion
import Derived.Test.YtialhhdhpjjkaaaGreatDoorEb
namespace Go.Proofs.YtialhhdhpjjkaaaGreatDoor.Das
open Go.ChangeShapes Go.WideShapes Go.ChangeAt Go.RowKit
open S0 S1 S9 Dm Fx E1 E18
set_option linter.unusedVariables false
set_option maxRecDepth 100000
def dasCredential (x : Fx.Credential) : List Da := [dI x.Handle, dI x.Public, dI x.Counter, dB x.Cut]
def zCredential : Fx.Credential := ⟨0, 0, 0, false⟩
theorem dasCredential_dc (x : Fx.Credential) : (dasCredential x).map Da.dc = x.dcs := rfl
def dasAccount (x : Fx.Account) : List Da := [dI x.Id, dI x.Minimum, rowR 86 4 dasCredential zCredential x.Credentials]
theorem dasAccount_dc (x : Fx.Account) : (dasAccount x).map Da.dc = x.dcs := by
  show [Dc.val (.int .i64 x.Id), Dc.val (.int .i64 x.Minimum), (rowR 86 4 dasCredential zCredential x.Credentials).dc] = x.dcs
  rw [rowR_dc 86 zCredential Fx.Credential.len dasCredential_dc]
  rfl
def dasKeyStore (x : Fx.KeyStore) : List Da := [dI x.Vendor, dI x.Serial, dI x.Seed, dI x.Counter]
theorem dasKeyStore_dc (x : Fx.KeyStore) : (dasKeyStore x).map Da.dc = x.dcs := rfl
def dasOrigin (x : Fx.Origin) : List Da := [dB x.Secure, dS x.Host, dI x.Port]
theorem dasOrigin_dc (x : Fx.Origin) : (dasOrigin x).map Da.dc = x.dcs := rfl
def dasAssertion (x : Fx.Assertion) : List Da := [dS x.Site, dS x.Origin, dI x.Challenge, dI x.Handle, dB x.Present, dI x.Counter, dI x.Signature]
theorem dasAssertion_dc (x : Fx.Assertion) : (dasAssertion x).map Da.dc = x.dcs := rfl
end Go.Proofs.YtialhhdhpjjkaaaGreatDoor.Das
