import Derived.Test.YtckplhmielckeaaYCredential
import Derived.Test.YtckplhmielckeaaYAccount
import Derived.Test.YtckplhmielckeaaEb
namespace Go.Proofs.Ytckplhmielckeaa.Das
open Go.ChangeShapes Go.WideShapes Go.ChangeAt Go.RowKit
open S0 S1 S9 Dm Fx E1 E18
set_option linter.unusedVariables false
set_option maxRecDepth 100000
def dasCredential (x : Fx.Credential) : List Da := [dI x.Handle, dI x.Public, dI x.Counter, dB x.Cut]
def zCredential : Fx.Credential := ⟨0, 0, 0, false⟩
theorem dasCredential_len (x : Fx.Credential) : (dasCredential x).length = 4 := rfl
theorem dasCredential_dc (x : Fx.Credential) : (dasCredential x).map Da.dc = x.dcs := rfl
def dasAccount (x : Fx.Account) : List Da := [dI x.Id, dI x.Minimum, rowR 89 4 dasCredential zCredential x.Credentials]
def zAccount : Fx.Account := ⟨0, 0, []⟩
theorem dasAccount_len (x : Fx.Account) : (dasAccount x).length = 3 := rfl
theorem dasAccount_dc (x : Fx.Account) : (dasAccount x).map Da.dc = x.dcs := by
  show [Dc.val (.int .i64 x.Id), Dc.val (.int .i64 x.Minimum), (rowR 89 4 dasCredential zCredential x.Credentials).dc] = x.dcs
  rw [rowR_dc 89 zCredential Fx.Credential.len dasCredential_dc]
  rfl
end Go.Proofs.Ytckplhmielckeaa.Das
