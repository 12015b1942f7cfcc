import Derived.Test.YtckplhmielckeabDoorYKeyStore
import Derived.Test.YtckplhmielckeabDoorYOrigin
import Derived.Test.YtckplhmielckeabDoorYAssertion
import Derived.Test.YtckplhmielckeabDoorEb
namespace Go.Proofs.YtckplhmielckeabDoor.Das
open Go.ChangeShapes Go.WideShapes Go.ChangeAt Go.RowKit
open S0 S1 S9 Dm Fx E1 E18
set_option linter.unusedVariables false
set_option maxRecDepth 100000
def dasKeyStore (x : Fx.KeyStore) : List Da := [dI x.Vendor, dI x.Serial, dI x.Seed, dI x.Counter]
theorem dasKeyStore_dc (x : Fx.KeyStore) : (dasKeyStore x).map Da.dc = x.dcs := rfl
def dasOrigin (x : Fx.Origin) : List Da := [dB x.Secure, dS x.Host, dI x.Port]
theorem dasOrigin_dc (x : Fx.Origin) : (dasOrigin x).map Da.dc = x.dcs := rfl
def dasAssertion (x : Fx.Assertion) : List Da := [dS x.Site, dS x.Origin, dI x.Challenge, dI x.Handle, dB x.Present, dI x.Counter, dI x.Signature]
end Go.Proofs.YtckplhmielckeabDoor.Das
