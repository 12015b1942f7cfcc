import Derived.Test.YtmfgfofdloclbaaYAssertion
import Derived.Test.YtmfgfofdloclbaaEb
namespace Go.Proofs.Ytmfgfofdloclbaa.Das
open Go.ChangeShapes Go.WideShapes Go.ChangeAt Go.RowKit
open S0 S1 S9 Dm Fx E1 E18
set_option linter.unusedVariables false
set_option maxRecDepth 100000
def dasAssertion (x : Fx.Assertion) : List Da := [dS x.Site, dS x.Origin, dI x.Challenge, dI x.Handle, dB x.Present, dI x.Counter, dI x.Signature]
def zAssertion : Fx.Assertion := ⟨⟨#[]⟩, ⟨#[]⟩, 0, 0, false, 0, 0⟩
theorem dasAssertion_len (x : Fx.Assertion) : (dasAssertion x).length = 7 := rfl
theorem dasAssertion_dc (x : Fx.Assertion) : (dasAssertion x).map Da.dc = x.dcs := rfl
end Go.Proofs.Ytmfgfofdloclbaa.Das
