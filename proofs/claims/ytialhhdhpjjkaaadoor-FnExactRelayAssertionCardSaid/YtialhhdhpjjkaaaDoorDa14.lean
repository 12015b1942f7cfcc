import Derived.Test.YtialhhdhpjjkaaaDoorYKeyStore
import Derived.Test.YtialhhdhpjjkaaaDoorYOrigin
import Derived.Test.YtialhhdhpjjkaaaDoorYAssertion
import Derived.Test.YtialhhdhpjjkaaaDoorEb
namespace Go.Proofs.YtialhhdhpjjkaaaDoor.Das
open Go.ChangeShapes Go.WideShapes Go.ChangeAt Go.RowKit
open S0 S1 S9 Dm Fx E1 E18
set_option linter.unusedVariables false
set_option maxRecDepth 100000
def dasKeyStore (x : Fx.KeyStore) : List Da := [dI x.Vendor, dI x.Serial, dI x.Seed, dI x.Counter]
def zKeyStore : Fx.KeyStore := ⟨0, 0, 0, 0⟩
theorem dasKeyStore_len (x : Fx.KeyStore) : (dasKeyStore x).length = 4 := rfl
theorem dasKeyStore_dc (x : Fx.KeyStore) : (dasKeyStore x).map Da.dc = x.dcs := rfl
def dasOrigin (x : Fx.Origin) : List Da := [dB x.Secure, dS x.Host, dI x.Port]
def zOrigin : Fx.Origin := ⟨false, ⟨#[]⟩, 0⟩
theorem dasOrigin_len (x : Fx.Origin) : (dasOrigin x).length = 3 := rfl
theorem dasOrigin_dc (x : Fx.Origin) : (dasOrigin x).map Da.dc = x.dcs := rfl
def dasAssertion (x : Fx.Assertion) : List Da := [dS x.Site, dS x.Origin, dI x.Challenge, dI x.Handle, dB x.Present, dI x.Counter, dI x.Signature]
def zAssertion : Fx.Assertion := ⟨⟨#[]⟩, ⟨#[]⟩, 0, 0, false, 0, 0⟩
theorem dasAssertion_len (x : Fx.Assertion) : (dasAssertion x).length = 7 := rfl
theorem dasAssertion_dc (x : Fx.Assertion) : (dasAssertion x).map Da.dc = x.dcs := rfl
end Go.Proofs.YtialhhdhpjjkaaaDoor.Das
