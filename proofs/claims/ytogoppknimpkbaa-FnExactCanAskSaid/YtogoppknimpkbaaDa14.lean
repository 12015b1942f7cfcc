import Derived.Test.YtogoppknimpkbaaYKeyStore
import Derived.Test.YtogoppknimpkbaaYOrigin
import Derived.Test.YtogoppknimpkbaaEb
namespace Go.Proofs.Ytogoppknimpkbaa.Das
open Go.ChangeShapes Go.WideShapes Go.ChangeAt Go.RowKit
open S0 S1 S9 Dm Fx E1 E18
set_option linter.unusedVariables false
set_option maxRecDepth 100000
def dasKeyStore (x : Fx.KeyStore) : List Da := [dI x.Vendor, dI x.Serial, dI x.Seed, dI x.Counter]
def zKeyStore : Fx.KeyStore := ⟨0, 0, 0, 0⟩
theorem dasKeyStore_len (x : Fx.KeyStore) : (dasKeyStore x).length = 4 := rfl
theorem dasKeyStore_dc (x : Fx.KeyStore) : (dasKeyStore x).map Da.dc = x.dcs := rfl
def dasOrigin (x : Fx.Origin) : List Da := [dB x.Secure, dS x.Host, dI x.Port]
def zOrigin : Fx.Origin := ⟨false, ⟨#[]⟩, 0⟩
theorem dasOrigin_len (x : Fx.Origin) : (dasOrigin x).length = 3 := rfl
theorem dasOrigin_dc (x : Fx.Origin) : (dasOrigin x).map Da.dc = x.dcs := rfl
end Go.Proofs.Ytogoppknimpkbaa.Das
